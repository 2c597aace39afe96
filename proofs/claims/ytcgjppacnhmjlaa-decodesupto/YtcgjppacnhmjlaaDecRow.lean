/- A schema as it is handed in. -/
import Derived.Test.YtcgjppacnhmjlaaDecB
import Derived.Test.YtcgjppacnhmjlaaRows
import Derived.ProofKit
import Derived.OpenShut
import Derived.Deep.DeepHandedRow
import Derived.Deep.Slices
import Derived.Lib.LaidTab
set_option linter.unusedVariables false
set_option linter.unusedSimpArgs false
namespace Go.Proofs.Ytcgjppacnhmjlaa
open Go.ChangeShapes Go.WideShapes Go.ChangeAt Go.RowKit Go.Deep
open Go.ChangeMaps (open_string shut_string)

theorem ownKn : ownKnob Try.prog.godebug = none := by kernel_rfl
theorem laidOut : laidOutB Try.prog = true := by kernel_rfl
theorem cellsI : Try.prog.cellsOf 3 = 1 := by kernel_rfl
theorem cellsS : Try.prog.cellsOf 9 = 1 := by kernel_rfl
theorem i64_wf {n : Int} (h : (Lit.int .i64 n).wf = true) : -9223372036854775808 ≤ n ∧ n ≤ 9223372036854775807 := by
  simpa [Lit.wf, IntKind.min, IntKind.max, IntKind.signed, IntKind.bits] using h
section
variable {H : Type} {enc : TypeId × Value → H} {W : World}
set_option maxRecDepth 100000 in
theorem ints_open {base : Nat} {v : Value} {d : DataW H} {ps : List MemPlace} (hok : Value.okWide Try.prog W .any base 42 v) (h : DataW.Trod enc Try.prog W 0 (fun _ => true) true 42 v d ps) :
    ∃ ks, IntsAt W v ks ∧ ks.length ≤ 9223372036854775807 := by
  obtain ⟨a0, len, cap, rfl⟩ := okWide_slice Try.underlying42 hok
  obtain ⟨fuel, hf⟩ := h
  rcases open_slice1 Try.underlying42 cellsI hf with ⟨hcs, _⟩ | ⟨a, len', cap', m, n, V, D, Pl, hcs, _, hl, hm, hmm, _, hx⟩
  · simp [Value.cells] at hcs
    obtain ⟨rfl, rfl, rfl⟩ := hcs
    exact ⟨[], ⟨none, 0, 0, 0, rfl, Nat.le_refl _, fun i o h => by simp at h⟩, by simp⟩
  · simp [Value.cells] at hcs
    obtain ⟨rfl, rfl, rfl⟩ := hcs
    simp at hmm
    subst hmm
    unfold maxLen at hm
    by_cases h0 : len = 0
    · subst h0
      exact ⟨[], ⟨_, 0, 0, _, rfl, Nat.zero_le _, fun i o h => by simp at h⟩, by simp⟩
    · have hsp : a.spot = none := by
        have h2 := (hx 0 (by omega)).1
        have : a.add 0 = a := by cases a; simp [Addr.add]
        rw [this] at h2
        exact World.cell?_spot h2
      obtain ⟨k, p, sp⟩ := a
      simp at hsp
      subst hsp
      obtain ⟨f, hfn⟩ := choose_lt (α := Int) (n := len) (p := fun i x => W.cell? ⟨k, p + i, none⟩ = some (.int .i64 x)) (fun i hi => by
        obtain ⟨h1, h2⟩ := hx i (by omega)
        obtain ⟨x, hv, _, _⟩ := DataW.trod_int Try.underlying3 h2
        simp at hv
        rw [Addr.add_lit, hv] at h1
        exact ⟨x, h1⟩)
      refine ⟨(List.range len).map f, ⟨some ⟨k, p, none⟩, k, p, _, by simp; rfl, by simpa using hl, fun i o ho => ?_⟩, by simp; omega⟩
      have hi : i < len := by have := (List.getElem?_eq_some_iff.mp ho).1; simpa using this
      simp [hi] at ho
      subst ho
      exact ⟨rfl, hfn i hi⟩
end
section
variable {H : Type}
theorem bulk_pos (d : DataW H) : 1 ≤ Rows.uptoBulk d := by
  cases d with
  | lit l => cases l <;> simp [Rows.uptoBulk]
  | _ => simp [Rows.uptoBulk]
theorem bulk_len (l : List (DataW H)) : l.length ≤ Rows.uptoBulkAll l := by
  induction l with
  | nil => simp
  | cons d l ih => have := bulk_pos d; simp only [Rows.uptoBulkAll, List.length_cons]; omega
theorem bulk_mem {d : DataW H} {l : List (DataW H)} (h : d ∈ l) : Rows.uptoBulk d ≤ Rows.uptoBulkAll l := by
  induction l with
  | nil => cases h
  | cons x l ih =>
    simp only [Rows.uptoBulkAll]
    rcases List.mem_cons.mp h with rfl | h
    · omega
    · have := ih h; omega
variable {enc : TypeId × Value → H} {W : World}
set_option maxRecDepth 100000 in
theorem ints_bulk {base : Nat} {v : Value} {d : DataW H} {ps : List MemPlace} (hok : Value.okWide Try.prog W .any base 42 v) (h : DataW.Trod enc Try.prog W 0 (fun _ => true) true 42 v d ps) :
    ∃ ks, IntsAt W v ks ∧ ks.length ≤ Rows.uptoBulk d := by
  obtain ⟨ks, h1, _⟩ := ints_open hok h
  refine ⟨ks, h1, ?_⟩
  obtain ⟨ao, kb, p, cap, rfl, _⟩ := h1
  obtain ⟨fuel, hf⟩ := h
  rcases open_slice Try.underlying42 hf with ⟨hcs, _⟩ | ⟨a, len', cap', m, n, D, Pl, hcs, _, hl, hm, hmm, hx, _⟩
  · simp [Value.cells] at hcs
    rw [hcs.2.1]; exact Nat.zero_le _
  · simp [Value.cells] at hcs
    simp only [Prod.mk.injEq] at hx
    rw [hx.1, hcs.2.1]
    simp only [Rows.uptoBulk]
    have := bulk_len ((List.range len').map D)
    simp at this
    omega
end

end Go.Proofs.Ytcgjppacnhmjlaa
