/- Going through: walkBehind. -/
import Derived.Test.YtcgjppacnhmjlaaGreatWalkA
set_option linter.unusedVariables false
set_option linter.unusedSimpArgs false
namespace Go.Proofs.YtcgjppacnhmjlaaGreat
open Go.RowKit
attribute [local go_sem ↓] Go.wp_at_zero Go.wp_at_succ

/-- What is asked of a going's own word: it lasts while memory is made, and the tree lies below. -/
structure Goes {α : Type} (S : Nat → Prop) (n₀ : Nat) (J : List α → World → Prop) : Prop where
  low : ∀ k, S k → k < n₀
  size : ∀ pre W, J pre W → n₀ ≤ W.heap.size
  later : ∀ pre W W', J pre W → Below W.heap.size W W' → J pre W'
theorem WalkR.ret {α : Type} {S : Nat → Prop} {J Jx : List α → World → Prop} {to : List UInt8} {l : List KV} {pre ys : List α} {W W' : World} {e : Ending} (h : WalkR S J Jx to l pre ys W e W') : ∃ b, e = .returned (.bool b) ∧ WalkR S J Jx to l pre ys W (.returned (.bool b)) W' := by
  have h' := h
  rcases h with ⟨b, rfl, _⟩ | ⟨rfl, _⟩
  · exact ⟨b, rfl, h'⟩
  · exact ⟨false, rfl, h'⟩
theorem Goes.kept {α : Type} {S : Nat → Prop} {n₀ : Nat} {J : List α → World → Prop} (h : Goes S n₀ J) {pre : List α} {W W' : World} (hJ : J pre W) (hb : Below W.heap.size W W') : Kept S W W' := fun k hk => hb.block k (by have := h.low k hk; have := h.size pre W hJ; omega)

section
variable {α : Type} {S : Nat → Prop} {J Jx : List α → World → Prop} {val : α → KV} {fr to : ByteArray} {lb N n n₀ : Nat}
set_option maxRecDepth 100000 in
set_option maxHeartbeats 1000000 in
theorem behind_away {W : World} {t : Nat} {p : ByteArray} {pre : List α} {l : List KV} (hp : W.cell? ⟨t, 0, none⟩ = some (.string p)) (hps : p.size ≤ 64) (hf : fr.size ≤ 9223372036854775807) (hno : ¬ p.data.toList <+: fr.data.toList) (hJ : J pre W) :
    Calls Tryz.prog 61 #[.pointer (some ⟨t, 0, none⟩), .string fr, .string to, .func (.yield lb) #[] #[]] W (WalkR S J Jx to.data.toList l pre [] W) := by
  have hq : Lib.hasPrefix fr.data.toList p.data.toList = false := by
    cases h : Lib.hasPrefix fr.data.toList p.data.toList with
    | false => rfl
    | true => exact absurd (List.isPrefixOf_iff_prefix.mp h) hno
  have HP : Hid (∀ w1, Calls Tryz.prog 45 #[.string fr, .string p] w1 fun e w' => e = .returned (.bool false) ∧ w' = w1) := fun w1 => by
    have := hasPrefix_any fr p w1 hf (by unfold maxLen; omega)
    rw [hq] at this
    exact this
  have HJ : Hid (J pre W) := hJ
  clear hJ hno hq
  go_enter Tryz.func61, Tryz.ntmps61
  go_wp2_with (go_at_call 45; refine (HP.out _).mono ?_; rintro e w' ⟨rfl, hw⟩; subst hw)
  go_ret
  exact .inl ⟨true, rfl, by simpa using HJ.out, Kept.refl _ _, fun h => by cases h⟩

set_option maxRecDepth 100000 in
set_option maxHeartbeats 1000000 in
theorem behind_into (hG : Goes S n₀ J) (hW : WalkOk S J Jx val fr to lb N n) {W : World} {t : Nat} {p : ByteArray} {vp : Option Addr} {bv : Value} {ov : Option Int} {cs : List Nat} {xs : List UInt8} {gs : List (List KV)} {l : List KV} {pre ys : List α}
    (hNd : NodeAt S W t p vp bv l.length) (hR : RowAt S W bv cs) (hl : cs.length = gs.length) (hC : ∀ (i c : Nat) g, cs[i]? = some c → gs[i]? = some g → RepN S n W c g) (hs : Shaped p.data.toList ov xs gs l)
    (hf : fr.size ≤ 9223372036854775807) (hkl : p.size < fr.size) (hpre : p.data.toList <+: fr.data.toList) (hJ : J pre W) (hN : pre.length + ys.length ≤ N) (hy : ys.map val = rng fr.data.toList to.data.toList l) :
    Calls Tryz.prog 61 #[.pointer (some ⟨t, 0, none⟩), .string fr, .string to, .func (.yield lb) #[] #[]] W (WalkR S J Jx to.data.toList l pre ys W) := by
  have hkey := key_parts fr p.size hkl
  have hP : p.data.toList = fr.data.toList.take p.size := by rw [Lib.size_eq]; exact (List.prefix_iff_eq_take.mp hpre)
  rw [← hP] at hkey
  have hB : BytesAt W p.size cs xs := by rw [Lib.size_eq]; exact repBytes hl hC hs.grps
  have hcs : cs.length ≤ 256 := by have := pw_len hs.grps.pw; have := hs.grps.len; omega
  have hpl := place_rep (S := S) (n := n) hNd.c0 hNd.c2 hR hB hs.grps.pw hf hkl
  have hps : posOf fr[p.size] xs ≤ cs.length := by have := (posOf_spec fr[p.size] xs hs.grps.pw).1; have := hs.grps.len; omega
  have hy2 : ys.map val = rng fr.data.toList to.data.toList (gs.drop (posOf fr[p.size] xs)).flatten := by rw [hy]; exact hs.rng_behind hkey
  obtain ⟨f, hfd⟩ : ∃ f, decide (xs[posOf fr[p.size] xs]? = some fr[p.size]) = f := ⟨_, rfl⟩
  rw [hfd] at hpl
  clear hfd
  have hflat : l = (ownL p.data.toList ov ++ (gs.take (posOf fr[p.size] xs)).flatten) ++ (gs.drop (posOf fr[p.size] xs)).flatten := by
    rw [List.append_assoc, ← List.flatten_append, List.take_append_drop]; exact hs.eq
  have hsub : Srt (gs.drop (posOf fr[p.size] xs)).flatten := by
    have h := hs.srt
    rw [hflat] at h
    exact (List.pairwise_append.mp h).2.1
  generalize posOf fr[p.size] xs = q at *
  have HPl : Hid (Calls Tryz.prog 67 #[.pointer (some ⟨t, 0, none⟩), .string fr] W fun e w' => e = .returned (.tuple #[.int .i64 q, .bool f]) ∧ Below W.heap.size W w') := hpl
  have hq : Lib.hasPrefix fr.data.toList p.data.toList = true := List.isPrefixOf_iff_prefix.mpr hpre
  have HP : Hid (∀ w1, Calls Tryz.prog 45 #[.string fr, .string p] w1 fun e w' => e = .returned (.bool true) ∧ w' = w1) := fun w1 => by
    have := hasPrefix_any fr p w1 hf (by have := hNd.short; unfold maxLen; omega)
    rw [hq] at this
    exact this
  -- what walkAll does from the world that place leaves
  have HAll : Hid (∀ W2, Below W.heap.size W W2 → ∀ bv', ((q = cs.length → ∃ o c, bv' = .slice o 0 c) ∧ (q < cs.length → ∃ k o cap, S k ∧ bv' = .slice (some ⟨k, o, none⟩) (cs.length - q) cap ∧ BrAt W2 k o (cs.drop q))) → Calls Tryz.prog 62 #[bv', .string fr, .string to, .func (.yield lb) #[] #[]] W2 fun e W' => ∃ b, e = .returned (.bool b) ∧ WalkR S J Jx to.data.toList l pre ys W (.returned (.bool b)) W') := fun W2 hb bv' hbv => by
    have hK := hG.kept hJ hb
    have hJ2 := hG.later _ _ _ hJ hb
    have lift : ∀ {e W'}, WalkR S J Jx to.data.toList (gs.drop q).flatten pre ys W2 e W' → WalkR S J Jx to.data.toList l pre ys W e W' := by
      rintro e W' (⟨b, h1, h2, h3, h4⟩ | h)
      · exact .inl ⟨b, h1, h2, hK.trans h3, fun hb => by rw [hflat]; exact (h4 hb).app_right⟩
      · exact .inr h
    rcases Nat.lt_or_ge q cs.length with hlt | hge
    · obtain ⟨k, o, cap, hk, rfl, hbr⟩ := hbv.2 hlt
      have hdl : (cs.drop q).length = cs.length - q := by simp
      have := walkAll_some hW (W := W2) (k := k) (o := o) (cap := cap) (cs := cs.drop q) (gs := gs.drop q) (pre := pre) (ys := ys) hk hbr (by simp; omega) (by simp [hl]) (fun i c g h1 h2 => (hC (q + i) c g (by rw [List.getElem?_drop] at h1; exact h1) (by rw [List.getElem?_drop] at h2; exact h2)).frame hK) hsub hJ2 hN hy2
      rw [hdl] at this
      exact this.mono fun e W' h => (lift h).ret
    · have hqe : q = cs.length := by omega
      obtain ⟨o, c, rfl⟩ := hbv.1 hqe
      have hd : gs.drop q = [] := List.drop_eq_nil_of_le (by omega)
      rw [hd] at hy2 lift
      have hys : ys = [] := by simpa [rng] using hy2
      subst hys
      exact (walkAll_nil W2 o c pre hJ2).mono fun e W' h => (lift h).ret
  have hc0 := hNd.c0
  have HC2 : Hid (W.cell? ⟨t, 2, none⟩ = some bv) := hNd.c2
  rcases hR with ⟨rfl, rfl⟩ | ⟨k, o, cap, hk, rfl, hcap, hmx, hbr, hne⟩
  · have hq0 : q = 0 := by simpa using hps
    subst hq0
    have HPl0 : Hid (Calls Tryz.prog 67 #[.pointer (some ⟨t, 0, none⟩), .string fr] W fun e w' => e = .returned (.tuple #[.int .i64 0, .bool f]) ∧ Below W.heap.size W w') := HPl
    clear hNd hC hB hpl hJ hy hy2 hs hkey hflat hsub hW hG HPl
    go_enter Tryz.func61, Tryz.ntmps61
    go_wp2_with (first
      | (go_at_call 45; refine (HP.out _).mono ?_; rintro e w' ⟨rfl, hw⟩; subst hw)
      | (go_at_call 67; refine HPl0.out.mono ?_; rintro e w2 ⟨rfl, hb2⟩; have hc2 := cell_later hb2 HC2.out)
      | (go_at_call 62; refine (HAll.out _ hb2 _ ⟨fun _ => ⟨_, _, rfl⟩, fun h => by simp at h⟩).mono ?_; rintro e w3 ⟨b, rfl, hE⟩; have HE : Hid (WalkR S J Jx to.data.toList l pre ys w' (.returned (.bool b)) w3) := hE; clear hE))
    go_ret
    exact HE.out
  · have HB2 : Hid (∀ W2, Below W.heap.size W W2 → BrAt W2 k o cs) := fun W2 hb => hbr.later hb
    have HSk : Hid (S k) := hk
    have hqI : (q : Int) ≤ (cs.length : Int) := by omega
    have hcapI : (cs.length : Int) ≤ (cap : Int) := by omega
    clear hNd hC hB hpl hJ hy hy2 hs hkey hflat hsub hW hG hbr hl
    by_cases hlt : q < cs.length
    · have hqc : ¬ cap = q := by omega
      have HAr : Hid (∀ W2, Below W.heap.size W W2 → Calls Tryz.prog 62 #[.slice (some ⟨k, o + q, none⟩) (cs.length - q) (cap - q), .string fr, .string to, .func (.yield lb) #[] #[]] W2 fun e W' => ∃ b, e = .returned (.bool b) ∧ WalkR S J Jx to.data.toList l pre ys W (.returned (.bool b)) W') := fun W2 hb => HAll.out W2 hb _ ⟨fun h => by omega, fun _ => ⟨k, o + q, cap - q, HSk.out, rfl, fun i c hi => by
        have := HB2.out W2 hb (q + i) c (by rw [List.getElem?_drop] at hi; exact hi)
        rw [Nat.add_assoc]; exact this⟩⟩
      clear HAll
      go_enter Tryz.func61, Tryz.ntmps61
      go_wp2_with (first
        | (go_at_call 45; refine (HP.out _).mono ?_; rintro e w' ⟨rfl, hw⟩; subst hw)
        | (go_at_call 67; refine HPl.out.mono ?_; rintro e w2 ⟨rfl, hb2⟩; have hc2 := cell_later hb2 HC2.out)
        | (go_at_call 62; refine (HAr.out _ hb2).mono ?_; rintro e w3 ⟨b, rfl, hE⟩; have HE : Hid (WalkR S J Jx to.data.toList l pre ys w' (.returned (.bool b)) w3) := hE; clear hE))
      go_ret
      exact HE.out
    · obtain rfl : q = cs.length := by omega
      have HAr : Hid (∀ W2 ao c, Below W.heap.size W W2 → Calls Tryz.prog 62 #[.slice ao 0 c, .string fr, .string to, .func (.yield lb) #[] #[]] W2 fun e W' => ∃ b, e = .returned (.bool b) ∧ WalkR S J Jx to.data.toList l pre ys W (.returned (.bool b)) W') := fun W2 ao c hb => HAll.out W2 hb _ ⟨fun _ => ⟨_, _, rfl⟩, fun h => by omega⟩
      clear HAll
      go_enter Tryz.func61, Tryz.ntmps61
      go_wp2_with (first
        | (go_at_call 45; refine (HP.out _).mono ?_; rintro e w' ⟨rfl, hw⟩; subst hw)
        | (go_at_call 67; refine HPl.out.mono ?_; rintro e w2 ⟨rfl, hb2⟩; have hc2 := cell_later hb2 HC2.out)
        | (go_at_call 62; refine (HAr.out _ _ _ hb2).mono ?_; rintro e w3 ⟨b, rfl, hE⟩; have HE : Hid (WalkR S J Jx to.data.toList l pre ys w' (.returned (.bool b)) w3) := hE; clear hE))
      all_goals go_ret
      all_goals exact HE.out
end

end Go.Proofs.YtcgjppacnhmjlaaGreat
