/- Tuples as they are handed in, and how much they hold. -/
import Derived.Test.YtcgjppacnhmjlaaDoorEncMain
import Derived.Test.YtcgjppacnhmjlaaDoorDoorRow
set_option linter.unusedVariables false
set_option linter.unusedSimpArgs false
namespace Go.Proofs.YtcgjppacnhmjlaaDoor
open Go.ChangeShapes Go.WideShapes Go.ChangeAt Go.RowKit Go.Deep
open Go.ChangeMaps (open_string shut_string)

theorem cellsU : Tryd.prog.cellsOf 27 = 1 := by kernel_rfl
theorem cellsJ : Tryd.prog.cellsOf 2 = 1 := by kernel_rfl
theorem cellsVl : Tryd.prog.cellsOf 29 = 3 := by kernel_rfl
theorem u64_wf {n : Int} (h : (Lit.int .u64 n).wf = true) : 0 ≤ n ∧ n ≤ 18446744073709551615 := by
  simpa [Lit.wf, IntKind.min, IntKind.max, IntKind.signed, IntKind.bits] using h
instance : Inhabited ValD := ⟨⟨0, 0, []⟩⟩
section
variable {H : Type}
theorem bulk_pos (d : DataW H) : 1 ≤ Rows.uptoBulk d := by
  cases d with
  | lit l => cases l <;> simp [Rows.uptoBulk]
  | _ => simp [Rows.uptoBulk]
theorem bulk_len (l : List (DataW H)) : l.length ≤ Rows.uptoBulkAll l := by
  induction l with
  | nil => simp
  | cons d l ih => have := bulk_pos d; simp only [Rows.uptoBulkAll, List.length_cons]; omega
theorem bulk_mem {d : DataW H} {l : List (DataW H)} (h : d ∈ l) : Rows.uptoBulk d ≤ Rows.uptoBulkAll l := by
  induction l with
  | nil => cases h
  | cons x l ih =>
    simp only [Rows.uptoBulkAll]
    rcases List.mem_cons.mp h with rfl | h
    · omega
    · have := ih h; omega
variable {enc : TypeId × Value → H} {W : World}
set_option maxRecDepth 100000 in
theorem ints_bulk {base : Nat} {v : Value} {d : DataW H} {ps : List MemPlace} (hok : Value.okWide Tryd.prog W .any base 22 v) (h : DataW.Trod enc Tryd.prog W 0 (fun _ => true) true 22 v d ps) :
    ∃ ks, IntsAt W v ks ∧ ks.length ≤ Rows.uptoBulk d := by
  obtain ⟨ks, h1, _⟩ := ints_open hok h
  refine ⟨ks, h1, ?_⟩
  obtain ⟨ao, kb, p, cap, rfl, _⟩ := h1
  obtain ⟨fuel, hf⟩ := h
  rcases open_slice Tryd.underlying22 hf with ⟨hcs, _⟩ | ⟨a, len', cap', m, n, D, Pl, hcs, _, hl, hm, hmm, hx, _⟩
  · simp [Value.cells] at hcs
    rw [hcs.2.1]; exact Nat.zero_le _
  · simp [Value.cells] at hcs
    simp only [Prod.mk.injEq] at hx
    rw [hx.1, hcs.2.1]
    simp only [Rows.uptoBulk]
    have := bulk_len ((List.range len').map D)
    simp at this
    omega
set_option maxRecDepth 100000 in
theorem val_open {fuel : Nat} {k p : Nat} {sp : Nat → Bool} {hd : Bool} {cs : List Value} {x : DataW H × List MemPlace} (h1 : W.cells? 0 ⟨k, p, none⟩ 3 = some cs) (h2 : DataW.trod enc Tryd.prog W 0 sp hd fuel 29 cs = some x) :
    ∃ u : ValD, ValOk u ∧ u.s.length ≤ Rows.uptoBulk x.1 ∧ W.cell? ⟨k, p, none⟩ = some (.int .u64 u.u) ∧ W.cell? ⟨k, p + 1, none⟩ = some (.int .i64 u.i) ∧ W.cell? ⟨k, p + 2, none⟩ = some (.string ⟨u.s.toArray⟩) := by
  obtain ⟨_, hlen, hcell⟩ := World.cells?_some h1
  obtain ⟨xs, n, _, hxx, _, hxl, hf⟩ := DataW.trod_struct Tryd.underlying29 h2
  simp at hxl
  match cs, hlen, xs, hxl with
  | [v0, v1, v2], _, [y0, y1, y2], _ =>
    have g0 : DataW.trod enc Tryd.prog W 0 sp hd n 27 ((([v0, v1, v2] : List Value).drop 0).take (Tryd.prog.cellsOf 27)) = some y0 := hf 0 _ rfl
    have g1 : DataW.trod enc Tryd.prog W 0 sp hd n 2 ((([v0, v1, v2] : List Value).drop 1).take (Tryd.prog.cellsOf 2)) = some y1 := hf 1 _ rfl
    have g2 : DataW.trod enc Tryd.prog W 0 sp hd n 9 ((([v0, v1, v2] : List Value).drop 2).take (Tryd.prog.cellsOf 9)) = some y2 := hf 2 _ rfl
    rw [cellsU] at g0; rw [cellsJ] at g1; rw [cellsS] at g2
    simp only [List.drop_zero, List.drop_succ_cons, List.take_succ_cons, List.take_zero] at g0 g1 g2
    obtain ⟨a0, e0, _, w0⟩ := DataW.trod_int Tryd.underlying27 g0
    obtain ⟨a1, e1, _, w1⟩ := DataW.trod_int Tryd.underlying2 g1
    obtain ⟨a2, e2, r2, _⟩ := DataW.trod_string Tryd.underlying9 g2
    simp at e0 e1 e2
    subst e0; subst e1; subst e2
    obtain ⟨u1, u2⟩ := u64_wf w0
    have hc : ∀ j, j < 3 → W.cell? ⟨k, p + j, none⟩ = ([.int .u64 a0, .int .i64 a1, .string a2] : List Value)[j]? := fun j hj => by
      have := hcell j hj
      rw [Addr.add_lit] at this
      exact this
    refine ⟨⟨a0.toNat, a1, a2.data.toList⟩, ⟨by dsimp only; omega, i64_wf w1⟩, ?_, ?_, hc 1 (by omega), ?_⟩
    · rw [hxx, r2]
      simp only [List.map, Rows.uptoBulk, Rows.uptoBulkAll]
      omega
    · have h := hc 0 (by omega)
      show W.cell? ⟨k, p, none⟩ = some (.int .u64 (a0.toNat : Nat))
      rw [Int.toNat_of_nonneg u1]
      exact h
    · have h := hc 2 (by omega)
      rw [h]
      show some (Value.string a2) = some (.string ⟨a2.data.toList.toArray⟩)
      rw [Lib.mk_data]
set_option maxRecDepth 100000 in
theorem vals_open {base : Nat} {v : Value} {d : DataW H} {ps : List MemPlace} (hok : Value.okWide Tryd.prog W .any base 23 v) (h : DataW.Trod enc Tryd.prog W 0 (fun _ => true) true 23 v d ps) :
    ∃ vs, ValsAt W v vs ∧ vs.length ≤ Rows.uptoBulk d ∧ ∀ u ∈ vs, ValOk u ∧ u.s.length ≤ Rows.uptoBulk d := by
  obtain ⟨a0, len, cap, rfl⟩ := okWide_slice Tryd.underlying23 hok
  obtain ⟨fuel, hf⟩ := h
  rcases open_slice Tryd.underlying23 hf with ⟨hcs, _⟩ | ⟨a, len', cap', m, n, D, Pl, hcs, _, hl, hm, hmm, hxd, hx⟩
  · simp [Value.cells] at hcs
    obtain ⟨rfl, rfl, rfl⟩ := hcs
    exact ⟨[], ⟨none, 0, 0, 0, rfl, Nat.le_refl _, fun i o h => by simp at h⟩, by simp, fun o h => by cases h⟩
  · simp [Value.cells] at hcs
    obtain ⟨rfl, rfl, rfl⟩ := hcs
    simp at hmm
    subst hmm
    simp only [Prod.mk.injEq] at hxd
    obtain ⟨rfl, _⟩ := hxd
    have hbl := bulk_len ((List.range len).map D)
    simp at hbl
    by_cases h0 : len = 0
    · subst h0
      exact ⟨[], ⟨_, 0, 0, _, rfl, Nat.zero_le _, fun i o h => by simp at h⟩, by simp, fun o h => by cases h⟩
    · have hsp : a.spot = none := by
        obtain ⟨cs', h1, _⟩ := hx 0 (by omega)
        obtain ⟨_, hlen, hcell⟩ := World.cells?_some h1
        rw [cellsVl] at hlen hcell
        have h2 := hcell 0 (by omega)
        have : (a.add (0 * 3)).add 0 = a := by cases a; simp [Addr.add]
        rw [this] at h2
        obtain ⟨u, hu⟩ : ∃ u, cs'[0]? = some u := ⟨_, List.getElem?_eq_getElem (by omega)⟩
        rw [hu] at h2
        exact World.cell?_spot h2
      obtain ⟨k, p, sp⟩ := a
      simp at hsp
      subst hsp
      obtain ⟨f, hfn⟩ := choose_lt (n := len) (p := fun i (u : ValD) => ValOk u ∧ u.s.length ≤ Rows.uptoBulk (D i) ∧ W.cell? ⟨k, p + i * 3, none⟩ = some (.int .u64 u.u) ∧ W.cell? ⟨k, p + i * 3 + 1, none⟩ = some (.int .i64 u.i) ∧ W.cell? ⟨k, p + i * 3 + 2, none⟩ = some (.string ⟨u.s.toArray⟩)) (fun i hi => by
        obtain ⟨cs', h1, h2⟩ := hx i (by omega)
        rw [cellsVl, Addr.add_lit] at h1
        exact val_open h1 h2)
      refine ⟨(List.range len).map f, ⟨some ⟨k, p, none⟩, k, p, _, by simp; rfl, by simpa using hl, fun i o ho => ?_⟩, by simp [Rows.uptoBulk]; omega, fun o ho => ?_⟩
      · have hi : i < len := by have := (List.getElem?_eq_some_iff.mp ho).1; simpa using this
        simp [hi] at ho
        subst ho
        exact ⟨rfl, (hfn i hi).2.2⟩
      · obtain ⟨i, hi, rfl⟩ := List.mem_map.mp ho
        have hi' := List.mem_range.mp hi
        refine ⟨(hfn i hi').1, ?_⟩
        have h1 := (hfn i hi').2.1
        have h2 := bulk_mem (d := D i) (l := (List.range len).map D) (List.mem_map.mpr ⟨i, hi, rfl⟩)
        simp only [Rows.uptoBulk]
        omega
end
theorem encV_len (k : Int) (u : ValD) : (encV k u).length ≤ 2 * u.s.length + 10 := by
  unfold encV
  split
  · have := esc_len u.s; simp; omega
  · rw [dg_len]; rcases widthOf_cases k with h | h | h | h <;> omega
theorem encAll_len (B : Nat) : ∀ (ks : List Int) (vs : List ValD), (∀ u ∈ vs, u.s.length ≤ B) → (encAll ks vs).length ≤ vs.length * (2 * B + 10)
  | [], vs, _ => by simp [encAll]
  | _ :: _, [], _ => by simp [encAll]
  | k :: ks, v :: vs, h => by
    have h1 := encAll_len B ks vs (fun u hu => h u (by simp [hu]))
    have h2 := encV_len k v
    have h3 := h v (by simp)
    simp only [encAll, List.length_append, List.length_cons, Nat.add_mul]
    omega

end Go.Proofs.YtcgjppacnhmjlaaDoor
