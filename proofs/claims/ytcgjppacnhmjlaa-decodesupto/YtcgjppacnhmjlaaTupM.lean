/- Values in memory: what both the reading and the writing of tuples need, without the writing. -/
import Derived.Test.YtcgjppacnhmjlaaTupQ
set_option linter.unusedVariables false
set_option linter.unusedSimpArgs false
namespace Go.Proofs.Ytcgjppacnhmjlaa
open Go.RowKit Go.Shelf

/-- A value that the program can hold. -/
def ValOk (v : ValD) : Prop := v.u < 18446744073709551616 ∧ (-9223372036854775808 ≤ v.i ∧ v.i ≤ 9223372036854775807)
def vB (v : ValD) : Obj := .cells #[.int .u64 v.u, .int .i64 v.i, .string ⟨v.s.toArray⟩] 62
theorem vB_cells {w : World} {b : Nat} {v : ValD} (h : w.heap[b]? = some (vB v)) : w.cell? ⟨b, 0, none⟩ = some (.int .u64 v.u) ∧ w.cell? ⟨b, 1, none⟩ = some (.int .i64 v.i) ∧ w.cell? ⟨b, 2, none⟩ = some (.string ⟨v.s.toArray⟩) := by
  simp [World.cell?, h, vB]
/-- A list of values as it lies in memory. -/
def ValsAt (w : World) (v : Value) (vs : List ValD) : Prop := ∃ ao kb p cap, v = .slice ao vs.length cap ∧ vs.length ≤ cap ∧ ∀ (i : Nat) u, vs[i]? = some u → ao = some ⟨kb, p, none⟩ ∧ w.cell? ⟨kb, p + i * 3, none⟩ = some (.int .u64 u.u) ∧ w.cell? ⟨kb, p + i * 3 + 1, none⟩ = some (.int .i64 u.i) ∧ w.cell? ⟨kb, p + i * 3 + 2, none⟩ = some (.string ⟨u.s.toArray⟩)
theorem ValsAt.on {w w' : World} {v : Value} {vs : List ValD} (h : ValsAt w v vs) (hb : Below w.heap.size w w') : ValsAt w' v vs := by
  obtain ⟨ao, kb, p, cap, h1, hc, h2⟩ := h
  exact ⟨ao, kb, p, cap, h1, hc, fun i k hk => ⟨(h2 i k hk).1, cell_later hb (h2 i k hk).2.1, cell_later hb (h2 i k hk).2.2.1, cell_later hb (h2 i k hk).2.2.2⟩⟩
theorem fitAll_iff : ∀ (ks : List Int) (vs : List ValD), FitAll ks vs ↔ vs.length = ks.length ∧ ∀ (i : Nat) k u, ks[i]? = some k → vs[i]? = some u → FitV k u
  | [], [] => by simp [FitAll]
  | [], v :: vs => by simp [FitAll]
  | k :: ks, [] => by simp [FitAll]
  | k :: ks, v :: vs => by
    rw [FitAll, fitAll_iff ks vs]
    constructor
    · rintro ⟨h1, h2, h3⟩
      refine ⟨by simp [h2], fun i k' u h4 h5 => ?_⟩
      cases i with
      | zero => simp at h4 h5; subst h4; subst h5; exact h1
      | succ i => exact h3 i k' u (by simpa using h4) (by simpa using h5)
    · rintro ⟨h1, h2⟩
      exact ⟨h2 0 k v rfl rfl, by simpa using h1, fun i k' u h4 h5 => h2 (i + 1) k' u (by simpa using h4) (by simpa using h5)⟩
theorem encAll_snoc : ∀ (ks : List Int) (vs : List ValD) (i : Nat) (k : Int) (u : ValD), ks[i]? = some k → vs[i]? = some u → encAll (ks.take (i + 1)) (vs.take (i + 1)) = encAll (ks.take i) (vs.take i) ++ encV k u
  | [], vs, i, k, u, h, _ => by simp at h
  | _ :: _, [], i, k, u, _, h => by simp at h
  | k' :: ks, v :: vs, 0, k, u, h1, h2 => by simp at h1 h2; subst h1; subst h2; simp [encAll]
  | k' :: ks, v :: vs, i + 1, k, u, h1, h2 => by
    have := encAll_snoc ks vs i k u (by simpa using h1) (by simpa using h2)
    simp only [List.take_succ_cons, encAll, this, List.append_assoc]
theorem encAll_part : ∀ (ks : List Int) (vs : List ValD) (i : Nat), (encAll (ks.take i) (vs.take i)).length ≤ (encAll ks vs).length
  | [], vs, i => by simp [encAll]
  | _ :: _, [], i => by cases i <;> simp [encAll]
  | k :: ks, v :: vs, 0 => by simp [encAll]
  | k :: ks, v :: vs, i + 1 => by
    have := encAll_part ks vs i
    simp [encAll]
    omega

theorem numOf_fit {k : Int} {u : ValD} (h9 : ¬ k = 9) (h5 : 5 ≤ k) (h : FitV k u) (hu : ValOk u) : ((u.i + 2 ^ (8 * widthOf k - 1)) % 18446744073709551616 : Int) = (numOf k u : Nat) ∧ numOf k u < 18446744073709551616 := by
  unfold FitV at h
  rw [if_neg h9, if_pos h5] at h
  obtain ⟨_, _, h1, h2⟩ := h
  unfold numOf
  rw [if_pos h5]
  rcases widthOf_cases k with hw | hw | hw | hw <;> rw [hw] at h1 h2 ⊢ <;> simp only [Nat.reduceMul, Nat.reduceSub, Int.reducePow] at h1 h2 ⊢ <;> omega

theorem valOk_fit {k : Int} {u : ValD} (h : FitV k u) : ValOk u := by
  unfold FitV at h
  unfold ValOk
  split at h
  · rw [h.1, h.2]; decide
  · rcases widthOf_cases k with hw | hw | hw | hw <;> rw [hw] at h <;> split at h <;> simp only [Nat.reduceMul, Nat.reduceSub, Int.reducePow, Nat.reducePow] at h <;> omega
theorem valOk_all {ks : List Int} {vs : List ValD} (h : FitAll ks vs) : ∀ u ∈ vs, ValOk u := by
  obtain ⟨h1, h2⟩ := (fitAll_iff ks vs).mp h
  intro u hu
  obtain ⟨i, hi⟩ := List.getElem?_of_mem hu
  have hlt := (List.getElem?_eq_some_iff.mp hi).1
  exact valOk_fit (h2 i _ u (List.getElem?_eq_getElem (by omega)) hi)
theorem rdAll_short : ∀ {ks : List Int} {t : Bs} {vs : List ValD}, rdAll ks t = some vs → ∀ u ∈ vs, u.s.length ≤ t.length
  | [], t, vs, h => by
    rw [rdAll] at h
    split at h
    · cases h; intro u hu; cases hu
    · cases h
  | k :: ks, t, vs, h => by
    rw [rdAll] at h
    split at h
    · cases h
    · rename_i v r hr
      obtain ⟨us, hu, rfl⟩ := Option.map_eq_some_iff.mp h
      have h1 := rdV_len hr
      have h2 := rdAll_short hu
      intro u hx
      rcases List.mem_cons.mp hx with rfl | hx
      · omega
      · have := h2 u hx; omega
theorem flatV_get : ∀ (vs : List ValD) (i : Nat) (u : ValD), vs[i]? = some u → (flatV vs)[i * 3]? = some (.int .u64 u.u) ∧ (flatV vs)[i * 3 + 1]? = some (.int .i64 u.i) ∧ (flatV vs)[i * 3 + 2]? = some (.string ⟨u.s.toArray⟩)
  | [], i, u, h => by simp at h
  | v :: vs, 0, u, h => by simp at h; subst h; simp [flatV, cellsV]
  | v :: vs, i + 1, u, h => by
    have := flatV_get vs i u (by simpa using h)
    have e1 : (i + 1) * 3 = i * 3 + 1 + 1 + 1 := by omega
    rw [e1]
    simpa [flatV, cellsV] using this
theorem RowV.vals {w : World} {g cap : Nat} {vs : List ValD} (h : RowV w (.slice (some ⟨g, 0, none⟩) vs.length cap) vs) (hc : vs.length ≤ cap) : ValsAt w (.slice (some ⟨g, 0, none⟩) vs.length cap) vs := by
  refine ⟨_, g, 0, cap, rfl, hc, fun i u hu => ?_⟩
  obtain ⟨a, b, c⟩ := flatV_get vs i u hu
  refine ⟨rfl, ?_, ?_, ?_⟩
  · have := rowCells h a; simpa using this
  · have := rowCells h b; simpa using this
  · have := rowCells h c; simpa using this

end Go.Proofs.Ytcgjppacnhmjlaa
