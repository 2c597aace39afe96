/- encoded: one Encode, beside the document's. -/
import Derived.Test.YtcgjppacnhmjlaaDoorTupV
import Derived.Test.YtcgjppacnhmjlaaDoorBackMain
set_option linter.unusedVariables false
set_option linter.unusedSimpArgs false
namespace Go.Proofs.YtcgjppacnhmjlaaDoor
open Go.RowKit Go.Shelf
attribute [local go_sem ↓] Go.wp_at_zero Go.wp_at_succ

open Classical in
/-- What both answer. -/
noncomputable def encR (ks : List Int) (vs : List ValD) : ByteArray × Int := if IsSch ks then (if FitAll ks vs then (⟨(encAll ks vs).toArray⟩, 0) else (⟨#[]⟩, 4)) else (⟨#[]⟩, 3)
theorem Encoded.eq {ks : List Int} {vs : List ValD} {e : Ending} (h : Encoded ks vs e) : e = .returned (.tuple #[.string (encR ks vs).1, .int .i64 (encR ks vs).2]) := by
  unfold encR
  rcases h with ⟨h1, h2⟩ | ⟨h1, h2, h3⟩ | ⟨h1, h2, h3⟩
  · rw [if_neg h1]; exact h2
  · rw [if_pos h1, if_neg h2]; exact h3
  · rw [if_pos h1, if_pos h2]; exact h3
def c77 : List Value := [.int .u64 77, .int .i64 0, .string ⟨#[]⟩]
/-- A tuple that was lent, and one value behind. -/
abbrev Mine (w : World) (g : Nat) (vs : List ValD) : Prop := w.ownsRow 0 29 3 (.slice (some ⟨g, 0, none⟩) (vs.length + 1) (vs.length + 1)) (vs.length + 1) (flatV vs ++ c77)
theorem Mine.vals {w : World} {g : Nat} {vs : List ValD} (h : Mine w g vs) : ValsAt w (.slice (some ⟨g, 0, none⟩) vs.length (vs.length + 1)) vs := by
  refine ⟨_, g, 0, vs.length + 1, rfl, by omega, fun i u hu => ?_⟩
  have hlt := (List.getElem?_eq_some_iff.mp hu).1
  obtain ⟨a, b, c⟩ := flatV_get vs i u hu
  have hl := flatV_len vs
  refine ⟨rfl, ?_, ?_, ?_⟩
  · have := rowCells h (j := i * 3) (by rw [List.getElem?_append_left (by omega)]; exact a); simpa using this
  · have := rowCells h (j := i * 3 + 1) (by rw [List.getElem?_append_left (by omega)]; exact b); simpa using this
  · have := rowCells h (j := i * 3 + 2) (by rw [List.getElem?_append_left (by omega)]; exact c); simpa using this
theorem Mine.last {w : World} {g : Nat} {vs : List ValD} (h : Mine w g vs) : w.cell? ⟨g, vs.length * 3, none⟩ = some (.int .u64 77) ∧ w.cell? ⟨g, vs.length * 3 + 1, none⟩ = some (.int .i64 0) ∧ w.cell? ⟨g, vs.length * 3 + 2, none⟩ = some (.string ⟨#[]⟩) := by
  have hl := flatV_len vs
  refine ⟨rowCells h ?_, rowCells h ?_, rowCells h ?_⟩
  · rw [List.getElem?_append_right (by omega), hl, Nat.sub_self]; rfl
  · rw [List.getElem?_append_right (by omega), hl]; have : vs.length * 3 + 1 - vs.length * 3 = 1 := by omega
    rw [this]; rfl
  · rw [List.getElem?_append_right (by omega), hl]; have : vs.length * 3 + 2 - vs.length * 3 = 2 := by omega
    rw [this]; rfl
theorem Mine.on {w w' : World} {g : Nat} {vs : List ValD} (h : Mine w g vs) (hb : w'.heap[g]? = w.heap[g]?) : Mine w' g vs := rowOn h fun k e => by
  have : k = g := by simp [Value.ownBlock] at e; exact e.symm
  rw [this]; exact hb
theorem Lent.on {w w' : World} {g : Nat} {ks : List Int} {last : Int} (h : Lent w g ks last) (hb : w'.heap[g]? = w.heap[g]?) : Lent w' g ks last := rowOn h fun k e => by
  have : k = g := by simp [Value.ownBlock] at e; exact e.symm
  rw [this]; exact hb
theorem mine_end {w2 : World} {g : Nat} {vs : List ValD} {xs : List Value} (hlx : xs.length = (vs.length + 1) * 3) (h : w2.ownsRow 0 29 3 (.slice (some ⟨g, 0, none⟩) (vs.length + 1) (vs.length + 1)) (vs.length + 1) (flatV vs ++ xs.drop (vs.length * 3))) :
    Mine (((w2.setCell ⟨g, vs.length * 3, none⟩ (.int .u64 77)).setCell ⟨g, vs.length * 3 + 1, none⟩ (.int .i64 0)).setCell ⟨g, vs.length * 3 + 2, none⟩ (.string ⟨#[]⟩)) g vs := by
  have h1 := (h.stored (vs.length * 3) (.int .u64 77)).1
  have h2 := (h1.stored (vs.length * 3 + 1) (.int .i64 0)).1
  have h3 := (h2.stored (vs.length * 3 + 2) (.string ⟨#[]⟩)).1
  have hl := flatV_len vs
  have hd : (xs.drop (vs.length * 3)).length = 3 := by rw [List.length_drop, hlx]; omega
  have e := set3_take (xs := flatV vs ++ xs.drop (vs.length * 3)) (i := vs.length) (a := .int .u64 77) (b := .int .i64 0) (c := .string ⟨#[]⟩) (by rw [List.length_append, hl, hd]; omega)
  rw [List.take_of_length_le (by simp only [List.length_set, List.length_append, hl, hd]; omega), List.take_append_of_le_length (by omega), List.take_of_length_le (by omega)] at e
  rw [e] at h3
  exact h3

set_option maxRecDepth 100000 in
set_option maxHeartbeats 4000000 in
theorem encoded_any {w : World} {x y : Value} {ks : List Int} {vs : List ValD} {m : Int} (hx : IntsAt w x ks) (hy : ValsAt w y vs) (hl : ks.length ≤ 1048576) (hlv : vs.length ≤ 1048576) (hvs : ∀ u ∈ vs, ValOk u) (hm : w.cell? ⟨0, 0, none⟩ = some (.int .i64 m)) (hsz : ∀ u ∈ vs, u.s.length < 4294967281) (htot : (encAll ks vs).length + 8 ≤ 140737488355328) :
    Calls Tryd.prog 7 #[x, y] w fun e w' => e = .returned (.bool true) ∧ Below w.heap.size w w' := by
  obtain ⟨i0, hi0, hz0, hz1, hz2⟩ := info_parts infoV
  obtain ⟨A, C, hAC⟩ : ∃ A C, encR ks vs = (A, C) := ⟨_, _, rfl⟩
  have HLent : Hid (Calls Tryd.prog 15 #[x] w fun e w' => e = .returned (.slice (some ⟨w.heap.size, 0, none⟩) (ks.length + 1) (ks.length + 1)) ∧ Lent w' w.heap.size ks (-77) ∧ Below w.heap.size w w') := lent_any hx hl
  have HEnc : Hid (∀ w4 g, Lent w4 w.heap.size ks (-77) → Mine w4 g vs → Below w.heap.size w w4 → Calls Tryd.prog 6 #[.slice (some ⟨w.heap.size, 0, none⟩) ks.length (ks.length + 1), .slice (some ⟨g, 0, none⟩) vs.length (vs.length + 1)] w4.drew fun e w' => e = .returned (.tuple #[.string A, .int .i64 C]) ∧ Below w4.heap.size w4 w') := fun w4 g h1 h2 hb => by
    have hb' : Below w4.heap.size w4 w4.drew := (Below.refl _ _).drew
    refine (encode_any (h1.ints.on hb') (h2.vals.on hb') (by omega) (by omega) hvs (cell_later (hb.trans (hb'.mono hb.size)) hm) hsz htot).mono fun e w' he => ⟨?_, hb'.trans he.2⟩
    have := he.1.eq
    rw [hAC] at this
    exact this
  have HRef : Hid (∀ w5, Below w.heap.size w w5 → Calls Tryd.prog 16 #[x, y] w5 fun e w' => e = .returned (.tuple #[.string A, .int .i64 C]) ∧ Below w5.heap.size w5 w') := fun w5 hb => by
    refine (refEncode_any (hx.on hb) (hy.on hb) (by omega) (by omega) hvs hsz (by omega)).mono fun e w' he => ⟨?_, he.2⟩
    have := he.1.eq
    rw [hAC] at this
    exact this
  have HBack : Hid (∀ w6, Below w.heap.size w w6 → Lent w6 w.heap.size ks (-77) → Calls Tryd.prog 17 #[.slice (some ⟨w.heap.size, 0, none⟩) (ks.length + 1) (ks.length + 1), x] w6 fun e w' => e = .returned (.bool true) ∧ Bt w.heap.size w6 w') := fun w6 hb h => backL_any h (hx.on hb) hl
  have HSame : Hid (∀ w7 g, Below w.heap.size w w7 → Mine w7 g vs → Calls Tryd.prog 18 #[.slice (some ⟨g, 0, none⟩) vs.length (vs.length + 1), y] w7 fun e w' => e = .returned (.bool true) ∧ Below w7.heap.size w7 w') := fun w7 g hb h => sameValues_any h.vals (hy.on hb) hlv
  have HNum : Hid (∀ (n : Int) w1, Calls Tryd.prog 19 #[.int .i64 n] w1 fun e w' => e = .returned (.int .i64 n) ∧ w' = w1) := fun n w1 => by
    go_enter Tryd.func19, Tryd.ntmps19
    go_wp2
    go_ret
    exact ⟨rfl, rfl⟩
  obtain ⟨ao, kb, p, cap, rfl, hcap, hc⟩ := hx
  obtain ⟨ao2, kb2, p2, cap2, rfl, hcap2, hc2⟩ := hy
  have HCopy : Hid (∀ w1 w2 xs ty, Below w.heap.size w w1 → Below w1.heap.size w1 w2 → w2.ownsRow 0 29 3 (.slice (some ⟨w1.heap.size, 0, none⟩) (vs.length + 1) (vs.length + 1)) (vs.length + 1) xs → ∃ w3, (Builtin.copy_ #[23, 23] ty #[.slice (some ⟨w1.heap.size, 0, none⟩) (vs.length + 1) (vs.length + 1), .slice ao2 vs.length cap2]).run Tryd.prog w2 = .ok (goInt vs.length) w3 ∧ w3.ownsRow 0 29 3 (.slice (some ⟨w1.heap.size, 0, none⟩) (vs.length + 1) (vs.length + 1)) (vs.length + 1) (flatV vs ++ xs.drop (vs.length * 3)) ∧ Below w1.heap.size w2 w3) := fun w1 w2 xs ty hb1 hb2 hrow =>
    copy_front 23 23 ty 29 3 Tryd.underlying23 infoV3 hrow (flatV_len vs) (fun j v hj => by
      have hlt := (List.getElem?_eq_some_iff.mp hj).1
      rw [flatV_len] at hlt
      obtain ⟨u, hu⟩ : ∃ u, vs[j / 3]? = some u := ⟨_, List.getElem?_eq_getElem (by omega)⟩
      obtain ⟨e, h0, h1, h2⟩ := hc2 _ u hu
      obtain ⟨f0, f1, f2⟩ := flatV_get vs _ u hu
      have hb12 := hb1.trans (hb2.mono hb1.size)
      refine ⟨_, e, ?_⟩
      rw [Addr.add_lit]
      have hj3 : j = j / 3 * 3 ∨ j = j / 3 * 3 + 1 ∨ j = j / 3 * 3 + 2 := by omega
      rcases hj3 with h | h | h
      · rw [h] at hj ⊢; rw [f0] at hj; cases hj; exact cell_later hb12 h0
      · rw [h] at hj ⊢; rw [f1] at hj; cases hj; exact cell_later hb12 (by rw [← Nat.add_assoc]; exact h1)
      · rw [h] at hj ⊢; rw [f2] at hj; cases hj; exact cell_later hb12 (by rw [← Nat.add_assoc]; exact h2)) (fun v hv => by
      unfold flatV cellsV at hv
      simp at hv
      obtain ⟨u, _, rfl | rfl | rfl⟩ := hv <;> rfl) (by decide)
  clear hc hc2 hvs hsz hAC hm
  have n1 : (ks.length : Int) ≤ (ks.length : Int) + 1 := by omega
  have n2 : (vs.length : Int) ≤ (vs.length : Int) + 1 := by omega
  have n3 : (vs.length : Int) < (vs.length : Int) + 1 := by omega
  go_enter Tryd.func7, Tryd.ntmps7
  go_wp2_with (first
    | (go_at_call 15; refine HLent.out.mono ?_; rintro e w1 ⟨rfl, hL1, hb1⟩; have HL1 : Hid (Lent w1 w.heap.size ks (-77)) := hL1; have hgl := rowLt hL1 rfl; clear hL1)
    | (refine wpList_make_full _ rfl _ _ _ rfl 0 29 i0 (.agg #[.int .u64 0, .int .i64 0, .string ⟨#[]⟩]) 3 Tryd.underlying23 hi0 hz0 hz1 .i64 .i64 _ _ (vs.length + 1) rfl rfl (by omega) (by omega) (by rw [hz2]; omega) (by unfold maxLen; omega) (Nat.zero_le _) ?_; intro w2 hown hgrow; have hb2 : Below w1.heap.size w1 w2 := ⟨hgrow.os, hgrow.tape, hgrow.output, hgrow.size, fun k hk => hgrow.block k hk (by simp)⟩; obtain ⟨w3, hrun, hrow3, hb3⟩ := HCopy.out _ _ _ 3 hb1 hb2 hown; have hlx := hown.1; have hfz := hrow3.frozenAt; obtain ⟨l0, hl0⟩ : ∃ v, w3.cell? ⟨w1.heap.size, vs.length * 3, none⟩ = some v := ⟨_, rowCells hrow3 (List.getElem?_eq_getElem (by have := hrow3.1; omega))⟩; obtain ⟨l1, hl1⟩ : ∃ v, w3.cell? ⟨w1.heap.size, vs.length * 3 + 1, none⟩ = some v := ⟨_, rowCells hrow3 (List.getElem?_eq_getElem (by have := hrow3.1; omega))⟩; obtain ⟨l2, hl2⟩ : ∃ v, w3.cell? ⟨w1.heap.size, vs.length * 3 + 2, none⟩ = some v := ⟨_, rowCells hrow3 (List.getElem?_eq_getElem (by have := hrow3.1; omega))⟩; have HM : Hid (Mine (((w3.setCell ⟨w1.heap.size, vs.length * 3, none⟩ (.int .u64 77)).setCell ⟨w1.heap.size, vs.length * 3 + 1, none⟩ (.int .i64 0)).setCell ⟨w1.heap.size, vs.length * 3 + 2, none⟩ (.string ⟨#[]⟩)) w1.heap.size vs) := mine_end hlx hrow3; have HB4 : Hid (Below w1.heap.size w1 (((w3.setCell ⟨w1.heap.size, vs.length * 3, none⟩ (.int .u64 77)).setCell ⟨w1.heap.size, vs.length * 3 + 1, none⟩ (.int .i64 0)).setCell ⟨w1.heap.size, vs.length * 3 + 2, none⟩ (.string ⟨#[]⟩))) := (((hb2.trans hb3).setCell (Nat.le_refl _) _).setCell (Nat.le_refl _) _).setCell (Nat.le_refl _) _; clear hrow3 hown hgrow hlx hb2 hb3))
  obtain ⟨w4, hw4⟩ : ∃ w4, (((w3.setCell ⟨w1.heap.size, vs.length * 3, none⟩ (.int .u64 77)).setCell ⟨w1.heap.size, vs.length * 3 + 1, none⟩ (.int .i64 0)).setCell ⟨w1.heap.size, vs.length * 3 + 2, none⟩ (.string ⟨#[]⟩)) = w4 := ⟨_, rfl⟩
  rw [hw4] at HM HB4 ⊢
  clear hw4 hl0 hl1 hl2 hfz hrun HCopy HLent
  have HL4 : Hid (Lent w4 w.heap.size ks (-77)) := HL1.out.on (HB4.out.block _ hgl)
  have HBw : Hid (Below w.heap.size w w4) := hb1.trans (HB4.out.mono hb1.size)
  clear HL1
  go_region_held3 (fun _ => True) (trivial) ((go_at_call 6; refine (HEnc.out _ _ HL4.out HM.out HBw.out).mono ?_; rintro e w5 ⟨rfl, hb5⟩))
  have hgw4 : w.heap.size < w4.heap.size := rowLt HL4.out rfl
  have hmw4 : w1.heap.size < w4.heap.size := rowLt HM.out rfl
  have HL5 : Hid (Lent w5 w.heap.size ks (-77)) := HL4.out.on (hb5.block _ hgw4)
  have HM5 : Hid (Mine w5 w1.heap.size vs) := HM.out.on (hb5.block _ hmw4)
  have HB5 : Hid (Below w.heap.size w w5) := HBw.out.trans (hb5.mono HBw.out.size)
  have hs5 := hb5.size
  clear HL4 HM HBw HEnc hb5
  have hne : w1.heap.size ≠ w.heap.size := by omega
  go_wp2_with (first
    | (go_at_call 16; refine (HRef.out _ HB5.out).mono ?_; rintro e w6 ⟨rfl, hb6⟩; have HL6 : Hid (Lent w6 w.heap.size ks (-77)) := HL5.out.on (hb6.block _ (by omega)); have HM6 : Hid (Mine w6 w1.heap.size vs) := HM5.out.on (hb6.block _ (by omega)); have HB6 : Hid (Below w.heap.size w w6) := HB5.out.trans (hb6.mono HB5.out.size); have hs6 := hb6.size; clear hb6)
    | (go_at_call 17; refine (HBack.out _ HB6.out HL6.out).mono ?_; rintro e w7 ⟨rfl, hb7⟩; have HM7 : Hid (Mine w7 w1.heap.size vs) := HM6.out.on (hb7.block _ (by omega) hne); have HB7 : Hid (Below w.heap.size w w7) := hb7.below HB6.out (Nat.le_refl _) (by omega); have hs7 := hb7.size; clear hb7)
    | (go_at_call 18; refine (HSame.out _ _ HB7.out HM7.out).mono ?_; rintro e w8 ⟨rfl, hb8⟩; obtain ⟨z0, z1, z2⟩ := (HM7.out.on (hb8.block _ (by omega))).last; have HB8 : Hid (Below w.heap.size w w8) := HB7.out.trans (hb8.mono HB7.out.size); clear hb8)
    | (go_at_call 19; refine (HNum.out _ _).mono ?_; rintro e w9 ⟨rfl, hw9⟩; subst hw9))
  go_ret
  exact ⟨rfl, HB8.out⟩

end Go.Proofs.YtcgjppacnhmjlaaDoor
