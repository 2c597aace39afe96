/- The document's own shape is that of the list. -/
import Derived.Test.YtcgjppacnhmjlaaGreatRefS
set_option linter.unusedVariables false
set_option linter.unusedSimpArgs false
namespace Go.Proofs.YtcgjppacnhmjlaaGreat
open Go.RowKit

def kAt (l : List KV) (t : Nat) : ByteArray := match l[t]? with | some e => keyOf e | none => ⟨#[]⟩
theorem kAt_of {l : List KV} {t : Nat} {e : KV} (h : l[t]? = some e) : kAt l t = keyOf e := by simp [kAt, h]
def HasByte (s : ByteArray) (i : Nat) (x : UInt8) : Prop := ∃ h : i < s.size, s[i] = x
theorem hasByte_of {e : KV} {i : Nat} {x : UInt8} (h : e.1[i]? = some x) : HasByte (keyOf e) i x := by
  obtain ⟨h1, h2⟩ := List.getElem?_eq_some_iff.mp h
  refine ⟨by rw [keyOf_size]; exact h1, ?_⟩
  rw [← h2]
  show (keyOf e).data[i]'_ = _
  simp [keyOf]
theorem HasByte.same {s u : ByteArray} {i : Nat} {x : UInt8} (h : HasByte s i x) (k : HasByte u i x) : ∃ (h1 : i < s.size) (h2 : i < u.size), (s[i].toNat : Int) = (u[i].toNat : Int) := by
  obtain ⟨h1, h2⟩ := h
  obtain ⟨k1, k2⟩ := k
  exact ⟨h1, k1, by rw [h2, k2]⟩
theorem HasByte.differ {s u : ByteArray} {i : Nat} {x y : UInt8} (h : HasByte s i x) (k : HasByte u i y) (hne : x ≠ y) : ∃ (h1 : i < s.size) (h2 : i < u.size), (s[i].toNat : Int) ≠ (u[i].toNat : Int) := by
  obtain ⟨h1, h2⟩ := h
  obtain ⟨k1, k2⟩ := k
  exact ⟨h1, k1, by rw [h2, k2]; intro e; exact hne (UInt8.toNat_inj.mp (by omega))⟩
theorem byte_behind {e : KV} {p r : List UInt8} {x : UInt8} (h : e.1 = p ++ x :: r) : HasByte (keyOf e) p.length x := hasByte_of (by rw [h]; simp)
theorem byte_within {e : KV} {p : List UInt8} (h : p <+: e.1) {t : Nat} (ht : t < p.length) : HasByte (keyOf e) t p[t] := by
  obtain ⟨r, hr⟩ := h
  exact hasByte_of (by rw [← hr, List.getElem?_append_left ht]; exact List.getElem?_eq_getElem _)

def offs (gs : List (List KV)) (i : Nat) : Nat := ((gs.take i).map List.length).sum
theorem offs_succ {gs : List (List KV)} {i : Nat} {g : List KV} (h : gs[i]? = some g) : offs gs (i + 1) = offs gs i + g.length := by
  unfold offs; rw [take_snoc' gs i g h]; simp
theorem offs_all (gs : List (List KV)) : offs gs gs.length = gs.flatten.length := by
  unfold offs; rw [List.take_of_length_le (Nat.le_refl _), List.length_flatten]
theorem offs_le (gs : List (List KV)) (i : Nat) : offs gs i ≤ gs.flatten.length := by
  rw [← offs_all, ]
  unfold offs
  have h : (gs.map List.length).sum = ((gs.take i).map List.length).sum + ((gs.drop i).map List.length).sum := by rw [← List.sum_append, ← List.map_append, List.take_append_drop]
  rw [List.take_of_length_le (i := gs.length) (Nat.le_refl _)]
  omega
theorem flat_at : ∀ (gs : List (List KV)) (i j : Nat) (g : List KV) (e : KV), gs[i]? = some g → g[j]? = some e → gs.flatten[offs gs i + j]? = some e
  | [], i, j, g, e, h, _ => by simp at h
  | a :: gs, 0, j, g, e, h, k => by
    simp at h; subst h
    have hj := (List.getElem?_eq_some_iff.mp k).1
    simp only [List.flatten_cons]
    rw [List.getElem?_append_left (by simp [offs]; omega)]
    simpa [offs] using k
  | a :: gs, i + 1, j, g, e, h, k => by
    have := flat_at gs i j g e (by simpa using h) k
    simp only [List.flatten_cons]
    have ho : offs (a :: gs) (i + 1) = a.length + offs gs i := by simp [offs]
    rw [ho, List.getElem?_append_right (by omega)]
    rw [← this]; congr 1; omega

/-- The keys of a node with branches lie as the walk wants them. -/
theorem nodeKeys_of {l sub : List KV} {fr at0 : Nat} {p xs : List UInt8} {ov : Option Int} {gs : List (List KV)} {q : List UInt8} (hsub : ∀ i, i < sub.length → l[fr + i]? = sub[i]?) (hs : Shaped p ov xs gs sub) (hne : gs ≠ []) (h2 : 2 ≤ sub.length)
    (hq : q.length = at0) (hpre : ∀ e ∈ sub, q <+: e.1) : NodeKeys (kAt l) fr (fr + sub.length - 1) at0 p.length gs.length (fun i => fr + (ownL p ov).length + offs gs i) := by
  have hlen : sub.length = (ownL p ov).length + gs.flatten.length := by rw [hs.eq, List.length_append]
  have hm : 0 < gs.length := List.length_pos_iff.mpr hne
  have hfl : 0 < gs.flatten.length := by
    have hg : gs[0]? = some gs[0] := List.getElem?_eq_getElem hm
    have h1 := hs.grps.some' 0 _ hg
    have h3 := (List.sublist_flatten_of_mem (List.mem_of_getElem? hg)).length_le
    have h4 := List.length_pos_iff.mpr h1
    omega
  -- a pair of the list, at its place
  have place : ∀ i e, sub[i]? = some e → kAt l (fr + i) = keyOf e := fun i e h => kAt_of ((hsub i (List.getElem?_eq_some_iff.mp h).1).trans h)
  have group : ∀ i j g e, gs[i]? = some g → g[j]? = some e → sub[(ownL p ov).length + (offs gs i + j)]? = some e := fun i j g e h k => by
    rw [hs.eq, List.getElem?_append_right (by omega), ← flat_at gs i j g e h k]; congr 1; omega
  have gbyte : ∀ i j g x, gs[i]? = some g → xs[i]? = some x → j < g.length → HasByte (kAt l (fr + (ownL p ov).length + offs gs i + j)) p.length x := fun i j g x h hx hj => by
    have hj' : g[j]? = some g[j] := List.getElem?_eq_getElem hj
    have := group i j g _ h hj'
    obtain ⟨r, hr⟩ := hs.grps.pre i x g hx h _ (List.mem_of_getElem? hj')
    have e1 : fr + (ownL p ov).length + offs gs i + j = fr + ((ownL p ov).length + (offs gs i + j)) := by omega
    rw [e1, place _ _ this]
    exact byte_behind hr
  have hlow : at0 ≤ p.length := by rw [← hq]; exact (hs.pre_of hpre).length_le
  obtain ⟨e0, he0⟩ : ∃ e, sub[0]? = some e := ⟨_, List.getElem?_eq_getElem (by omega)⟩
  obtain ⟨e9, he9⟩ : ∃ e, sub[sub.length - 1]? = some e := ⟨_, List.getElem?_eq_getElem (by omega)⟩
  have k0 : kAt l fr = keyOf e0 := place 0 e0 he0
  have k9 : kAt l (fr + sub.length - 1) = keyOf e9 := by
    have := place _ e9 he9
    rwa [show fr + (sub.length - 1) = fr + sub.length - 1 by omega] at this
  -- the last group
  obtain ⟨g9, hg9⟩ : ∃ g, gs[gs.length - 1]? = some g := ⟨_, List.getElem?_eq_getElem (by omega)⟩
  obtain ⟨x9, hx9⟩ := hs.grps.byte hg9
  have hg9l : 0 < g9.length := List.length_pos_iff.mpr (hs.grps.some' _ _ hg9)
  have ho9 : offs gs gs.length = offs gs (gs.length - 1) + g9.length := by
    have := offs_succ hg9
    rwa [show gs.length - 1 + 1 = gs.length by omega] at this
  have b9 : HasByte (kAt l (fr + sub.length - 1)) p.length x9 := by
    have := gbyte _ (g9.length - 1) g9 x9 hg9 hx9 (by omega)
    rw [offs_all] at ho9
    rwa [show fr + (ownL p ov).length + offs gs (gs.length - 1) + (g9.length - 1) = fr + sub.length - 1 by omega] at this
  have hown : (kAt l fr).size = p.length ↔ (ownL p ov).length = 1 := by
    rw [k0, keyOf_size]
    cases ov with
    | some v =>
      have : sub[0]? = some (p, v) := by rw [hs.eq]; rfl
      rw [he0] at this
      rw [Option.some.inj this]
      simp [ownL]
    | none =>
      constructor
      · intro h
        exfalso
        have hg0 : gs[0]? = some gs[0] := List.getElem?_eq_getElem hm
        have : e0 ∈ gs.flatten := by
          have h3 : sub = gs.flatten := by rw [hs.eq]; rfl
          rw [← h3]; exact List.mem_of_getElem? he0
        obtain ⟨x, r, hr⟩ := hs.grps.front this
        rw [hr] at h
        simp at h
      · intro h; simp [ownL] at h
  have hown2 : (ownL p ov).length = 1 ∨ (ov = none ∧ (ownL p ov).length = 0) := by cases ov <;> simp [ownL]
  refine ⟨by omega, hlow, fun t h1 h3 => ?_, b9.1, ?_, fun h => ?_, ?_, ?_, fun i hi => ?_, fun i t hi h1 h3 => ?_, fun i hi => ?_⟩
  · rw [k0, k9]
    exact (byte_within (hs.front (List.mem_of_getElem? he0)) h3).same (byte_within (hs.front (List.mem_of_getElem? he9)) h3)
  · rw [k0, keyOf_size]; exact (hs.front (List.mem_of_getElem? he0)).length_le
  · have hz : ¬ (ownL p ov).length = 1 := fun h4 => by rw [hown.mpr h4] at h; omega
    rcases hown2 with h4 | ⟨h4, h5⟩
    · exact absurd h4 hz
    · have h6 := hs.two h4
      obtain ⟨g0, hg0⟩ : ∃ g, gs[0]? = some g := ⟨_, List.getElem?_eq_getElem hm⟩
      obtain ⟨x0, hx0⟩ := hs.grps.byte hg0
      have b0 := gbyte 0 0 g0 x0 hg0 hx0 (List.length_pos_iff.mpr (hs.grps.some' _ _ hg0))
      rw [h5, show fr + 0 + offs gs 0 + 0 = fr by simp [offs]] at b0
      have hlt := pw_get hs.grps.pw hx0 hx9 (by omega)
      obtain ⟨_, _, h7⟩ := b0.differ b9 (fun e => by rw [e] at hlt; exact UInt8.lt_irrefl _ hlt)
      exact h7
  · show fr + (ownL p ov).length + offs gs 0 = _
    have h0 : offs gs 0 = 0 := by simp [offs]
    rcases hown2 with h4 | ⟨_, h5⟩
    · rw [if_pos (hown.mpr h4)]; omega
    · rw [if_neg (fun h => by have := hown.mp h; omega)]; omega
  · show fr + (ownL p ov).length + offs gs gs.length = _
    rw [offs_all]; omega
  · obtain ⟨g, hg⟩ : ∃ g, gs[i]? = some g := ⟨_, List.getElem?_eq_getElem hi⟩
    have h4 := offs_succ hg
    have h5 := List.length_pos_iff.mpr (hs.grps.some' _ _ hg)
    have h6 := offs_le gs (i + 1)
    show fr + (ownL p ov).length + offs gs i < fr + (ownL p ov).length + offs gs (i + 1) ∧ fr + (ownL p ov).length + offs gs (i + 1) ≤ _
    omega
  · obtain ⟨g, hg⟩ : ∃ g, gs[i]? = some g := ⟨_, List.getElem?_eq_getElem hi⟩
    obtain ⟨x, hx⟩ := hs.grps.byte hg
    have h4 := offs_succ hg
    have h5 := List.length_pos_iff.mpr (hs.grps.some' _ _ hg)
    have h1' : fr + (ownL p ov).length + offs gs i ≤ t := h1
    have h3' : t < fr + (ownL p ov).length + offs gs (i + 1) := h3
    have b1 := gbyte i (t - (fr + (ownL p ov).length + offs gs i)) g x hg hx (by omega)
    rw [show fr + (ownL p ov).length + offs gs i + (t - (fr + (ownL p ov).length + offs gs i)) = t by omega] at b1
    have b2 := gbyte i 0 g x hg hx h5
    exact b1.same b2
  · obtain ⟨g, hg⟩ : ∃ g, gs[i]? = some g := ⟨_, List.getElem?_eq_getElem (by omega)⟩
    obtain ⟨g', hg'⟩ : ∃ g, gs[i + 1]? = some g := ⟨_, List.getElem?_eq_getElem hi⟩
    obtain ⟨x, hx⟩ := hs.grps.byte hg
    obtain ⟨x', hx'⟩ := hs.grps.byte hg'
    have b1 := gbyte i 0 g x hg hx (List.length_pos_iff.mpr (hs.grps.some' _ _ hg))
    have b2 := gbyte (i + 1) 0 g' x' hg' hx' (List.length_pos_iff.mpr (hs.grps.some' _ _ hg'))
    have hlt := pw_get hs.grps.pw hx hx' (by omega)
    exact b2.differ b1 (fun e => by rw [e] at hlt; exact UInt8.lt_irrefl _ hlt)

end Go.Proofs.YtcgjppacnhmjlaaGreat
