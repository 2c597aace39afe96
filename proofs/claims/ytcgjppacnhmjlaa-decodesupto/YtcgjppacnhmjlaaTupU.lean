/- What the law lends: copies of what it was handed. -/
import Derived.Test.YtcgjppacnhmjlaaTupS
import Derived.Laws.CopyOwn
set_option linter.unusedVariables false
set_option linter.unusedSimpArgs false
namespace Go.Proofs.Ytcgjppacnhmjlaa
open Go.RowKit Go.Shelf
attribute [local go_sem ↓] Go.wp_at_zero Go.wp_at_succ

theorem run_copy_sz {P : Program} (w : World) (dT sT ty elem : TypeId) (size : Nat) (g dLen dCap : Nat) (a : Addr) (sLen sCap : Nat) (cur : Array Value) (t : TypeId) (cs : List Value)
    (hu : P.underlying dT = some (.slice elem)) (hs : (P.info? elem).map (·.size) = some size)
    (hg : w.heap[g]? = some (.cells cur t (0, 0))) (hn : cs.length = Nat.min sLen dLen * size)
    (hsrc : ∀ j v, cs[j]? = some v → w.cell? (a.add j) = some v) (hfit : cs.length ≤ cur.size) (h1 : ∀ v ∈ cs, v.oneCell' = true) :
    (Builtin.copy_ #[dT, sT] ty #[.slice (some ⟨g, 0, none⟩) dLen dCap, .slice (some a) sLen sCap]).run P w =
      .ok (goInt (Nat.min sLen dLen)) (w.setRow g (cs ++ cur.toList.drop cs.length).toArray) := by
  have hl := run_loadCells_list (P := P) w a cs hsrc
  have hst := run_storeCells_at P g 0 t cs 0 cur w hg (by simpa using hfit) h1
  cases hq : P.info? elem with
  | none => simp [hq] at hs
  | some i =>
    have hi : i.size = size := by simpa [hq] using hs
    simp [Builtin.copy_, run_underlying hu, Builtin.lenOf, Builtin.firstCells, sizeOf, typeInfo, hq, hi, ← hn, hl]
    simp at hst
    simp [hst]
theorem run_copy_zero {P : Program} (w : World) (dT sT ty elem : TypeId) (size : Nat) (d a : Option Addr) (dLen dCap sCap : Nat) (hu : P.underlying dT = some (.slice elem)) (hs : (P.info? elem).map (·.size) = some size) :
    (Builtin.copy_ #[dT, sT] ty #[.slice d dLen dCap, .slice a 0 sCap]).run P w = .ok (goInt 0) w := by
  cases hq : P.info? elem with
  | none => simp [hq] at hs
  | some i =>
    have hl : ∀ (x : Addr), (loadCells x 0).run P w = .ok #[] w := fun x => by simpa using run_loadCells_list (P := P) w x [] (by simp)
    cases d <;> cases a <;> simp [Builtin.copy_, run_underlying hu, Builtin.lenOf, Builtin.firstCells, sizeOf, typeInfo, hq, storeCells, hl]
/-- A list is copied to the front of a row of one more. -/
theorem copy_front {P : Program} {w : World} (dT sT ty elem : TypeId) (size : Nat) (hu : P.underlying dT = some (.slice elem)) (hs : (P.info? elem).map (·.size) = some size) {g n cap : Nat} {ao : Option Addr} {xs cs : List Value}
    (hrow : w.ownsRow 0 elem size (.slice (some ⟨g, 0, none⟩) (n + 1) (n + 1)) (n + 1) xs) (hl : cs.length = n * size) (hsrc : ∀ j v, cs[j]? = some v → ∃ ad, ao = some ad ∧ w.cell? (ad.add j) = some v) (h1 : ∀ v ∈ cs, v.oneCell' = true) (hsz : 0 < size) :
    ∃ w', (Builtin.copy_ #[dT, sT] ty #[.slice (some ⟨g, 0, none⟩) (n + 1) (n + 1), .slice ao n cap]).run P w = .ok (goInt n) w' ∧ w'.ownsRow 0 elem size (.slice (some ⟨g, 0, none⟩) (n + 1) (n + 1)) (n + 1) (cs ++ xs.drop (n * size)) ∧ Below g w w' := by
  cases n with
  | zero =>
    have : cs = [] := List.length_eq_zero_iff.mp (by simpa using hl)
    subst this
    exact ⟨w, run_copy_zero w dT sT ty elem size _ _ _ _ _ hu hs, by simpa using hrow, Below.refl _ _⟩
  | succ n =>
    obtain ⟨h0, q | ⟨g', cap', cur, q1, q2, q3, q4, q5, q6, q7⟩⟩ := hrow
    · cases q.1
    · cases q1
      have hpos : 0 < cs.length := by rw [hl]; exact Nat.mul_pos (by omega) hsz
      obtain ⟨v0, hv0⟩ : ∃ v, cs[0]? = some v := ⟨_, List.getElem?_eq_getElem hpos⟩
      obtain ⟨ad, rfl, _⟩ := hsrc 0 v0 hv0
      have hcs : cur.size = xs.length := by rw [q6, h0]
      have hxs : cur.toList = xs := by rw [← q7, List.take_of_length_le (by simp [q6])]
      have hfit : cs.length ≤ cur.size := by rw [hl, q6]; exact Nat.mul_le_mul_right _ (by omega)
      have hmin : Nat.min (n + 1) (n + 1 + 1) = n + 1 := Nat.min_eq_left (by omega)
      have hrun := run_copy_sz (P := P) w dT sT ty elem size g (n + 1 + 1) (n + 1 + 1) ad (n + 1) cap cur elem cs hu hs q3 (by rw [hmin, hl]) (fun j v hj => by obtain ⟨ad', e, h⟩ := hsrc j v hj; cases e; exact h) hfit h1
      rw [hmin] at hrun
      refine ⟨_, hrun, ⟨?_, .inr ⟨g, n + 1 + 1, _, rfl, q2, setRow_heap w g cur _ elem _ q3, Nat.le_refl _, q5, ?_, ?_⟩⟩, below_setRow (Below.refl _ _) (Nat.le_refl _) _⟩
      · rw [List.length_append, List.length_drop, hl]; rw [hl] at hfit; rw [h0, ← Nat.add_sub_assoc (by rw [hcs, h0] at hfit; exact hfit), Nat.add_sub_cancel_left]
      · simp only [List.size_toArray, List.length_append, List.length_drop, hxs]; rw [hl] at hfit ⊢; rw [h0, ← Nat.add_sub_assoc (by rw [hcs, h0] at hfit; exact hfit), Nat.add_sub_cancel_left]
      · rw [hxs, hl]
        apply List.take_of_length_le
        simp only [List.length_append, List.length_drop]
        rw [hl, h0]
        have : (n + 1) * size ≤ (n + 1 + 1) * size := Nat.mul_le_mul_right _ (by omega)
        omega

end Go.Proofs.Ytcgjppacnhmjlaa
