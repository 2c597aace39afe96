/- A script as it is handed in: its steps, cell by cell. -/
import Derived.Test.YtcgjppacnhmjlaaGreatTwinJ
import Derived.Conc.LeavingOf
import Derived.ProofKit
import Derived.Deep.Slices
set_option linter.unusedVariables false
set_option linter.unusedSimpArgs false
namespace Go.Proofs.YtcgjppacnhmjlaaGreat
open Go.ChangeShapes Go.WideShapes Go.ChangeAt Go.RowKit Go.Deep

theorem ownKn : ownKnob Tryz.prog.godebug = none := by kernel_rfl
theorem laidOut : laidOutB Tryz.prog = true := by kernel_rfl
theorem leaving_of_quiet {P : Program} {m : Machine} (h : m.quiet) : m.OnlyLeaving P := by
  refine ⟨fun g hg => ⟨0, ?_⟩, h.2⟩
  have h1 := h.1
  unfold Machine.othersDone at h1
  rw [List.all_eq_true] at h1
  have := h1 g hg
  show g.status = .finished
  simpa using this
/-- What one goroutine alone returns holds where others might be, too: there are none. -/
theorem leaving_of_handed {a : Assume} {C : Checked} {os : Os} {f : FuncId} {r : Reach} {Pre : World → Array Value → Prop} {Post : World → Array Value → Value → World → Prop} (h : ReturnsInHanded a C os f r Pre Post) : ReturnsInLeavingWide a C os f r Pre Post :=
  fun enter => ReturnsInOpen.mono (fun _ _ _ x => ⟨x.2.1, leaving_of_quiet x.1, x.2.2⟩) (fun _ x => x) (h enter)
theorem cellsI : Tryz.prog.cellsOf 3 = 1 := by kernel_rfl
theorem cellsS : Tryz.prog.cellsOf 9 = 1 := by kernel_rfl
theorem cellsP : Tryz.prog.cellsOf 37 = 1 := by kernel_rfl
theorem cellsO : Tryz.prog.cellsOf 22 = 1 := by kernel_rfl
theorem cells9 : Tryz.prog.cellsOf 39 = 9 := by kernel_rfl
instance : Inhabited OpD := ⟨⟨0, 0, 0, ⟨#[]⟩, ⟨#[]⟩, 0, none, 0, 0, none, 0, 0, none, 0, 0⟩⟩
theorem i64_wf {n : Int} (h : (Lit.int .i64 n).wf = true) : -9223372036854775808 ≤ n ∧ n ≤ 9223372036854775807 := by
  simpa [Lit.wf, IntKind.min, IntKind.max, IntKind.signed, IntKind.bits] using h
section
variable {H : Type} {enc : TypeId × Value → H} {W : World}
theorem slice_any {fuel : Nat} {base : Nat} {sp : Nat → Bool} {hd : Bool} {t e : TypeId} {v : Value} {x : Option (DataW H × List MemPlace)} (ht : Tryz.prog.underlying t = some (.slice e)) (hx : x.isSome = true) (h : DataW.trod enc Tryz.prog W base sp hd fuel t [v] = x) : ∃ a l c, v = .slice a l c := by
  cases x with
  | none => cases hx
  | some x =>
    rcases DataW.trod_slice ht h with ⟨h1, _⟩ | ⟨a, len, cap, _, _, _, _, h1, _⟩
    · simp at h1; exact ⟨_, _, _, h1⟩
    · simp at h1; exact ⟨_, _, _, h1⟩
theorem int_any {fuel : Nat} {base : Nat} {sp : Nat → Bool} {hd : Bool} {v : Value} {x : Option (DataW H × List MemPlace)} (hx : x.isSome = true) (h : DataW.trod enc Tryz.prog W base sp hd fuel 3 [v] = x) : ∃ n, v = .int .i64 n ∧ -9223372036854775808 ≤ n ∧ n ≤ 9223372036854775807 := by
  cases x with
  | none => cases hx
  | some x =>
    obtain ⟨n, h1, _, hw⟩ := DataW.trod_int Tryz.underlying3 h
    simp at h1
    exact ⟨n, h1, i64_wf hw⟩
theorem str_any {fuel : Nat} {base : Nat} {sp : Nat → Bool} {hd : Bool} {v : Value} {x : Option (DataW H × List MemPlace)} (hx : x.isSome = true) (h : DataW.trod enc Tryz.prog W base sp hd fuel 9 [v] = x) : ∃ s : ByteArray, v = .string s ∧ s.size ≤ 9223372036854775807 := by
  cases x with
  | none => cases hx
  | some x =>
    obtain ⟨n, h1, _, hw⟩ := DataW.trod_string Tryz.underlying9 h
    simp at h1
    exact ⟨n, h1, by unfold maxLen at hw; omega⟩

set_option maxRecDepth 100000 in
theorem op_open {fuel : Nat} {k p : Nat} {sp : Nat → Bool} {hd : Bool} {cs : List Value} {x : DataW H × List MemPlace} (h1 : W.cells? 0 ⟨k, p, none⟩ 9 = some cs) (h2 : DataW.trod enc Tryz.prog W 0 sp hd fuel 39 cs = some x) : ∃ o, OpFits o ∧ OpCells W k p o := by
  obtain ⟨_, hlen, hcell⟩ := World.cells?_some h1
  obtain ⟨xs, n, _, _, _, hxl, hf⟩ := DataW.trod_struct Tryz.underlying39 h2
  simp at hxl
  match cs, hlen with
  | [v0, v1, v2, v3, v4, v5, v6, v7, v8], _ =>
    have hs : ∀ i, i < 9 → (xs[i]?).isSome = true := fun i hi => by simp; omega
    have g0 : DataW.trod enc Tryz.prog W 0 sp hd n 3 ((([v0, v1, v2, v3, v4, v5, v6, v7, v8] : List Value).drop 0).take (Tryz.prog.cellsOf 3)) = xs[0]? := hf 0 _ rfl
    rw [cellsI] at g0
    have g1 : DataW.trod enc Tryz.prog W 0 sp hd n 3 ((([v0, v1, v2, v3, v4, v5, v6, v7, v8] : List Value).drop 1).take (Tryz.prog.cellsOf 3)) = xs[1]? := hf 1 _ rfl
    rw [cellsI] at g1
    have g2 : DataW.trod enc Tryz.prog W 0 sp hd n 3 ((([v0, v1, v2, v3, v4, v5, v6, v7, v8] : List Value).drop 2).take (Tryz.prog.cellsOf 3)) = xs[2]? := hf 2 _ rfl
    rw [cellsI] at g2
    have g3 : DataW.trod enc Tryz.prog W 0 sp hd n 9 ((([v0, v1, v2, v3, v4, v5, v6, v7, v8] : List Value).drop 3).take (Tryz.prog.cellsOf 9)) = xs[3]? := hf 3 _ rfl
    rw [cellsS] at g3
    have g4 : DataW.trod enc Tryz.prog W 0 sp hd n 9 ((([v0, v1, v2, v3, v4, v5, v6, v7, v8] : List Value).drop 4).take (Tryz.prog.cellsOf 9)) = xs[4]? := hf 4 _ rfl
    rw [cellsS] at g4
    have g5 : DataW.trod enc Tryz.prog W 0 sp hd n 3 ((([v0, v1, v2, v3, v4, v5, v6, v7, v8] : List Value).drop 5).take (Tryz.prog.cellsOf 3)) = xs[5]? := hf 5 _ rfl
    rw [cellsI] at g5
    have g6 : DataW.trod enc Tryz.prog W 0 sp hd n 37 ((([v0, v1, v2, v3, v4, v5, v6, v7, v8] : List Value).drop 6).take (Tryz.prog.cellsOf 37)) = xs[6]? := hf 6 _ rfl
    rw [cellsP] at g6
    have g7 : DataW.trod enc Tryz.prog W 0 sp hd n 22 ((([v0, v1, v2, v3, v4, v5, v6, v7, v8] : List Value).drop 7).take (Tryz.prog.cellsOf 22)) = xs[7]? := hf 7 _ rfl
    rw [cellsO] at g7
    have g8 : DataW.trod enc Tryz.prog W 0 sp hd n 22 ((([v0, v1, v2, v3, v4, v5, v6, v7, v8] : List Value).drop 8).take (Tryz.prog.cellsOf 22)) = xs[8]? := hf 8 _ rfl
    rw [cellsO] at g8
    simp only [List.drop_zero, List.drop_succ_cons, List.take_succ_cons, List.take_zero] at g0 g1 g2 g3 g4 g5 g6 g7 g8
    obtain ⟨n0, rfl, _⟩ := int_any (hs 0 (by omega)) g0
    obtain ⟨n1, rfl, r1⟩ := int_any (hs 1 (by omega)) g1
    obtain ⟨n2, rfl, _⟩ := int_any (hs 2 (by omega)) g2
    obtain ⟨s3, rfl, r3⟩ := str_any (hs 3 (by omega)) g3
    obtain ⟨s4, rfl, _⟩ := str_any (hs 4 (by omega)) g4
    obtain ⟨n5, rfl, _⟩ := int_any (hs 5 (by omega)) g5
    obtain ⟨a6, l6, c6, rfl⟩ := slice_any Tryz.underlying37 (hs 6 (by omega)) g6
    obtain ⟨a7, l7, c7, rfl⟩ := slice_any Tryz.underlying22 (hs 7 (by omega)) g7
    obtain ⟨a8, l8, c8, rfl⟩ := slice_any Tryz.underlying22 (hs 8 (by omega)) g8
    refine ⟨⟨n0, n1, n2, s3, s4, n5, a6, l6, c6, a7, l7, c7, a8, l8, c8⟩, ⟨r1, r3⟩, ?_⟩
    have e : ∀ j, j < 9 → W.cell? ⟨k, p + j, none⟩ = ([.int .i64 n0, .int .i64 n1, .int .i64 n2, .string s3, .string s4, .int .i64 n5, .slice a6 l6 c6, .slice a7 l7 c7, .slice a8 l8 c8] : List Value)[j]? := fun j hj => by
      have := hcell j hj
      rw [Addr.add_lit] at this
      exact this
    exact ⟨e 0 (by omega), e 1 (by omega), e 2 (by omega), e 3 (by omega), e 4 (by omega), e 5 (by omega), e 6 (by omega), e 7 (by omega), e 8 (by omega)⟩
set_option maxRecDepth 100000 in
theorem ops_open {base : Nat} {v : Value} {d : DataW H} {ps : List MemPlace} (hok : Value.okWide Tryz.prog W .any base 22 v) (h : DataW.Trod enc Tryz.prog W 0 (fun _ => true) true 22 v d ps) :
    ∃ ops, OpsAt W v ops ∧ ops.length ≤ 9223372036854775807 ∧ ∀ o ∈ ops, OpFits o := by
  obtain ⟨a0, len, cap, rfl⟩ := okWide_slice Tryz.underlying22 hok
  obtain ⟨fuel, hf⟩ := h
  rcases open_slice Tryz.underlying22 hf with ⟨hcs, _⟩ | ⟨a, len', cap', m, n, D, Pl, hcs, _, hl, hm, hmm, _, hx⟩
  · simp [Value.cells] at hcs
    obtain ⟨rfl, rfl, rfl⟩ := hcs
    exact ⟨[], ⟨none, 0, 0, 0, rfl, fun i o h => by simp at h⟩, by simp, fun o h => by cases h⟩
  · simp [Value.cells] at hcs
    obtain ⟨rfl, rfl, rfl⟩ := hcs
    simp at hmm
    subst hmm
    unfold maxLen at hm
    by_cases h0 : len = 0
    · subst h0
      exact ⟨[], ⟨_, 0, 0, _, rfl, fun i o h => by simp at h⟩, by simp, fun o h => by cases h⟩
    · have hsp : a.spot = none := by
        obtain ⟨cs', h1, _⟩ := hx 0 (by omega)
        obtain ⟨_, hlen, hcell⟩ := World.cells?_some h1
        rw [cells9] at hlen hcell
        have h2 := hcell 0 (by omega)
        have : (a.add (0 * 9)).add 0 = a := by cases a; simp [Addr.add]
        rw [this] at h2
        obtain ⟨u, hu⟩ : ∃ u, cs'[0]? = some u := ⟨_, List.getElem?_eq_getElem (by omega)⟩
        rw [hu] at h2
        exact World.cell?_spot h2
      obtain ⟨k, p, sp⟩ := a
      simp at hsp
      subst hsp
      obtain ⟨f, hfn⟩ := choose_lt (n := len) (p := fun i o => OpFits o ∧ OpCells W k (p + i * 9) o) (fun i hi => by
        obtain ⟨cs', h1, h2⟩ := hx i (by omega)
        rw [cells9, Addr.add_lit] at h1
        exact op_open h1 h2)
      refine ⟨(List.range len).map f, ⟨some ⟨k, p, none⟩, k, p, _, by simp; rfl, fun i o ho => ?_⟩, by simp; omega, fun o ho => ?_⟩
      · have hi : i < len := by have := (List.getElem?_eq_some_iff.mp ho).1; simpa using this
        simp [hi] at ho
        subst ho
        exact ⟨rfl, (hfn i hi).2⟩
      · obtain ⟨i, hi, rfl⟩ := List.mem_map.mp ho
        exact (hfn i (List.mem_range.mp hi)).1
end

end Go.Proofs.YtcgjppacnhmjlaaGreat
