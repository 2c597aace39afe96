/- The document's own shape, whole. -/
import Derived.Test.YtcgjppacnhmjlaaGreatRefT
set_option linter.unusedVariables false
set_option linter.unusedSimpArgs false
namespace Go.Proofs.YtcgjppacnhmjlaaGreat
open Go.RowKit

theorem ownsRow_on {w w' : World} {e : TypeId} {size n : Nat} {v : Value} {xs : List Value} (h : w.ownsRow 0 e size v n xs) (hb : ∀ g, v.ownBlock = some g → w'.heap[g]? = w.heap[g]?) : w'.ownsRow 0 e size v n xs := by
  obtain ⟨h0, h1 | ⟨g', cap', cur, h1, h2, h3, h4⟩⟩ := h
  · exact ⟨h0, .inl h1⟩
  · exact ⟨h0, .inr ⟨g', cap', cur, h1, h2, (hb g' (by rw [h1]; rfl)).trans h3, h4⟩⟩
theorem RefAt.on {w w' : World} {r : Nat} {av : Value} {l : List KV} (h : RefAt w r av l) (hb : Below w.heap.size w w') : RefAt w' r av l :=
  ⟨blk_on hb h.blk, ownsRow_on h.row fun g hg => hb.block g (h.row.lt g hg).2, h.out, h.srt, h.short, h.few⟩
theorem kAt_size {l : List KV} (h : Keys64 l) (t : Nat) : (kAt l t).size ≤ 64 := by
  unfold kAt
  split
  · rename_i e he; rw [keyOf_size]; exact h e (List.mem_of_getElem? he)
  · decide
theorem two_of {p xs : List UInt8} {ov : Option Int} {gs : List (List KV)} {sub : List KV} (hs : Shaped p ov xs gs sub) (hne : gs ≠ []) : 2 ≤ sub.length := by
  have hlen : sub.length = (ownL p ov).length + gs.flatten.length := by rw [hs.eq, List.length_append]
  have hm : 0 < gs.length := List.length_pos_iff.mpr hne
  obtain ⟨g, hg⟩ : ∃ g, gs[0]? = some g := ⟨_, List.getElem?_eq_getElem hm⟩
  have h1 := offs_succ hg
  have h2 := List.length_pos_iff.mpr (hs.grps.some' _ _ hg)
  cases ov with
  | some v => have := offs_le gs (0 + 1); have h0 : (ownL p (some v)).length = 1 := rfl; omega
  | none =>
    have h3 := hs.two rfl
    obtain ⟨g', hg'⟩ : ∃ g, gs[1]? = some g := ⟨_, List.getElem?_eq_getElem (by omega)⟩
    have h4 := offs_succ hg'
    have h5 := List.length_pos_iff.mpr (hs.grps.some' _ _ hg')
    have h6 := offs_le gs (1 + 1)
    have h0 : (ownL p (none : Option Int)).length = 0 := rfl
    have e1 : (0 : Nat) + 1 = 1 := rfl
    rw [e1] at h1
    omega

theorem rshape_any : ∀ (n : Nat) {w : World} {r fr at0 h : Nat} {av : Value} {l sub : List KV} {c : Nat → Nat} {q : List UInt8}, RefAt w r av l → ShapeOf n sub c h → (∀ i, i < sub.length → l[fr + i]? = sub[i]?) → fr + sub.length ≤ l.length → q.length = at0 → (∀ e ∈ sub, q <+: e.1) →
    Calls Tryz.prog 26 #[.pointer (some ⟨r, 0, none⟩), .int .i64 fr, .int .i64 (fr + sub.length : Nat), .int .i64 at0] w fun e w' => e = .returned (shapeV c h) ∧ Below w.heap.size w w'
  | 0, _, _, _, _, _, _, _, _, _, _, _, H, _, _, _, _ => H.elim
  | n + 1, w, r, fr, at0, h, av, l, sub, c, q, hR, ⟨p, ov, xs, gs, hs, H⟩, hsub, hle, hq, hpre => by
    have hlen : sub.length = (ownL p ov).length + gs.flatten.length := by rw [hs.eq, List.length_append]
    have hfew := hR.few
    rcases H with ⟨h1, rfl, rfl⟩ | ⟨hne, cl, hl, l1, l2, hc, rfl, rfl⟩
    · have hov : ov ≠ none := fun h0 => by have := hs.two h0; rw [h1] at this; simp at this
      obtain ⟨v, rfl⟩ := Option.ne_none_iff_exists'.mp hov
      have h3 : sub.length = 1 := by rw [hlen, h1]; rfl
      rw [h3]
      exact rshape_leaf (by omega)
    · have h2 := two_of hs hne
      rcases hR.cases with ⟨rfl, rfl⟩ | ⟨g, cap, rfl, hp, hcap⟩
      · have h0 : ([] : List KV).length = 0 := rfl
        omega
      have hlast : fr + sub.length - 1 + 1 = fr + sub.length := by omega
      have hgl : ∀ (i : Nat) g, gs[i]? = some g → g.length ≤ sub.length := by
        intro i g hg
        have h2 : g.length ≤ gs.flatten.length := (List.sublist_flatten_of_mem (List.mem_of_getElem? hg)).length_le
        omega
      have bd : ∀ (i : Nat) g c' h', gs[i]? = some g → cl[i]? = some c' → hl[i]? = some h' → (∀ j, c' j + 1 ≤ 2 * g.length) ∧ h' ≤ g.length := by
        intro i g c' h' hg hc' hh'
        have := (hc i g c' h' hg hc' hh').bounds
        exact ⟨this.1, this.2.1⟩
      have hcall := rshape_node (w := w) (r := r) (g := g) (N := l.length) (cap := cap) (fr := fr) (last := fr + sub.length - 1) (at0 := at0) (pl := p.length) (m := gs.length) (K := kAt l) (cl := cl) (hl := hl) hR.cell
        (fun t ht => by
          have := (hp t _ (List.getElem?_eq_getElem ht)).1
          rw [this, kAt_of (List.getElem?_eq_getElem ht)]) (by omega) hfew (fun t => kAt_size hR.short t) (nodeKeys_of hsub hs hne h2 hq hpre)
        (by have := pw_len hs.grps.pw; rw [hs.grps.len] at this; exact this) l1 l2
        (fun x hx => by
          obtain ⟨i, hi⟩ := List.mem_iff_getElem?.mp hx
          have hil := (List.getElem?_eq_some_iff.mp hi).1
          have h3 := (bd i (gs[i]'(by omega)) (cl[i]'(by omega)) x (List.getElem?_eq_getElem _) (List.getElem?_eq_getElem _) hi).2
          have h4 := hgl i _ (List.getElem?_eq_getElem (by omega))
          omega)
        (fun i j => by
          have h7 := sumAt_le (cl := cl.take i) (gs := gs.take i) (by simp; omega) (fun i' g c' hg hc' j => by
            rw [List.getElem?_take] at hg hc'
            split at hg
            · rw [if_pos ‹_›] at hc'
              have hi := (List.getElem?_eq_some_iff.mp hg).1
              exact (bd i' g c' (hl[i']'(by omega)) hg hc' (List.getElem?_eq_getElem _)).1 j
            · cases hg) j
          have h8 := offs_le gs i
          unfold offs at h8
          show 0 + sumAt (cl.take i) j ≤ _
          omega)
        (fun c' hc' j => by
          obtain ⟨i, hi⟩ := List.mem_iff_getElem?.mp hc'
          have hil := (List.getElem?_eq_some_iff.mp hi).1
          have h3 := (bd i (gs[i]'(by omega)) c' (hl[i]'(by omega)) (List.getElem?_eq_getElem _) hi (List.getElem?_eq_getElem _)).1 j
          have h4 := hgl i _ (List.getElem?_eq_getElem (by omega))
          omega)
        (fun i c' h' hi hc' hh' w1 hb1 => by
          obtain ⟨g', hg'⟩ : ∃ g, gs[i]? = some g := ⟨_, List.getElem?_eq_getElem hi⟩
          obtain ⟨x, hx⟩ := hs.grps.byte hg'
          have hoff := offs_succ hg'
          have hol := offs_le gs (i + 1)
          have hrec := rshape_any n (fr := fr + (ownL p ov).length + offs gs i) (q := p ++ [x]) (at0 := p.length + 1) (hR.on hb1) (hc i g' c' h' hg' hc' hh') (fun j hj => by
            have hj' : g'[j]? = some g'[j] := List.getElem?_eq_getElem hj
            rw [hj', show fr + (ownL p ov).length + offs gs i + j = fr + ((ownL p ov).length + (offs gs i + j)) by omega, hsub _ (by omega), hs.eq, List.getElem?_append_right (by omega), ← flat_at gs i j g' _ hg' hj']
            congr 1; omega) (by omega) (by simp) (fun e he => by
            obtain ⟨r', hr'⟩ := hs.grps.pre i x g' hx hg' e he
            rw [hr']; exact ⟨r', by simp⟩)
          have e1 : fr + (ownL p ov).length + offs gs i + g'.length = fr + (ownL p ov).length + offs gs (i + 1) := by omega
          rw [e1] at hrec
          exact hrec)
      rw [hlast] at hcall
      exact hcall

theorem rshape_top {w : World} {r h : Nat} {av : Value} {l : List KV} {c : Nat → Nat} (hR : RefAt w r av l) (hs : ShapeL l c h) :
    Calls Tryz.prog 26 #[.pointer (some ⟨r, 0, none⟩), .int .i64 0, .int .i64 l.length, .int .i64 0] w fun e w' => e = .returned (shapeV c h) ∧ Below w.heap.size w w' := by
  rcases hs with ⟨rfl, rfl, rfl⟩ | ⟨n, hs⟩
  · exact rshape_none (fr := 0) (at0 := 0)
  · have := rshape_any n (fr := 0) (at0 := 0) (q := []) hR hs (fun i _ => by rw [Nat.zero_add]) (by omega) rfl (fun e _ => List.nil_prefix)
    rw [Nat.zero_add] at this
    exact this

end Go.Proofs.YtcgjppacnhmjlaaGreat
