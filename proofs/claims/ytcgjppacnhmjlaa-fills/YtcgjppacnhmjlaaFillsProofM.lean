/- Fills: for all texts and all cuts handed in, the call returns true, on every schedule and without a data race, and leaves what it was given as it was; at the return the goroutines that it started have ended or are only leaving. -/
import Derived.Test.YtcgjppacnhmjlaaFmBO
import Derived.Test.YtcgjppacnhmjlaaRows
import Derived.Conc.LeavingOf
import Derived.ProofKit
import Derived.SliceStrings

section
set_option linter.unusedVariables false
set_option linter.unusedSimpArgs false
set_option linter.unusedSectionVars false
set_option linter.unusedVariables false
set_option linter.unusedSimpArgs false
namespace Go.Proofs.Ytcgjppacnhmjlaa
open Go.ChangeShapes Go.WideShapes Go.ChangeAt Go.RowKit

theorem fillsKnob : ownKnob Try.prog.godebug = none := by kernel_rfl
theorem fillsLaid : laidOutB Try.prog = true := by kernel_rfl
theorem fillsCells : Try.prog.cellsOf 9 = 1 ∧ Try.prog.cellsOf 3 = 1 := ⟨by kernel_rfl, by kernel_rfl⟩

section
open Go.Conc
variable {H : Type} {enc : TypeId × Value → H}
/-- One good run from every start gives the row; the start's memory holds what the program's own variables need. -/
theorem leaving_of_runs {a : Assume} {C : Checked} {os : Os} {f : FuncId} {fn : Func} {s : ChangeSpec} {conds : List PathCond} {apart fresh handsOn again : Bool}
    (own : ownKnob C.prog.godebug = none) (started : os.Started) (hfn : C.prog.funcs[f]? = some fn) (hroom : C.prog.globals.size < (begin C.prog (fun _ _ => 0) default).world.heap.size)
    (witness : ∃ (w : World) (tape : Tape) (i : Input), w.os = os ∧ (w.forCall tape i).Shaped C.prog ∧ i.vars = [] ∧ Input.okWide C.prog (w.forCall tape i) .any w.heap.size f i ∧
      s.pre6 enc C.prog fn conds apart (w.forCall tape i).memory i.args ∧ a.holds C.prog (lone (Frame.enter C.prog f i.args .normal) [] (w.forCall tape i)))
    (runs : ∀ (W : World) (base : Nat) (args : Array Value) (ds gs : List (DataW H)) (before : List MemPlace), C.prog.globals.size ≤ W.heap.size →
      (∀ (j : Nat) t v, fn.params[j]? = some t → args[j]? = some v → Value.okWide C.prog W .any base t v) →
      DataW.Whole enc C.prog fn.params.toList s.vars apart W args.toList ds gs before →
      ∃ M last o w' t', runNT C.prog (M + 1) (solo (G (Frame.enter C.prog f args .normal) []) W) #[] = (.ended o w', t') ∧ runN C.prog M (solo (G (Frame.enter C.prog f args .normal) []) W) = .next last ∧
        step C.prog last = .ended o w' ∧ Conc.Good C.prog (fun v W' => s.post enc C.prog fn apart fresh handsOn again W.blind args v W'.blind) last o w' t') :
    ReturnsInLeavingWide a C os f .any (s.pre6 enc C.prog fn conds apart) (s.post enc C.prog fn apart fresh handsOn again) := by
  refine returnsInLeavingWide_of_good own started witness ?_
  intro w tape i _ hsh _ hok hpre _
  obtain ⟨_, _, _, fn', hfn', _, _, _, _, hval⟩ := hok
  have e : fn' = fn := Option.some.inj (hfn'.symm.trans hfn)
  subst e
  obtain ⟨⟨ds, gs, before, hw, hc⟩, hz⟩ := hpre
  have hsz : C.prog.globals.size ≤ (w.forCall tape i).heap.size := by
    obtain ⟨o, _, h1, _⟩ := hsh.2 C.prog.globals.size (Nat.le_refl _) hroom
    exact Nat.le_of_lt (Array.getElem?_eq_some_iff.1 h1).1
  exact runs (w.forCall tape i) w.heap.size i.args ds gs before hsz hval (DataW.Whole.of_heap (w' := w.forCall tape i) (by rfl) hw)
end

set_option maxRecDepth 100000 in
theorem fills_strs {H : Type} {enc : TypeId × Value → H} {W : World} {base : Nat} {v : Value} {d : DataW H} {ps : List MemPlace} (hok : Value.okWide Try.prog W .any base 22 v) (h : DataW.Trod enc Try.prog W 0 (fun _ => true) true 22 v d ps) :
    ∃ ao ss c, v = .slice ao ss.length c ∧ Sim.StrO W ao ss ∧ ss.length ≤ 9223372036854775807 := by
  obtain ⟨a0, len, cap, rfl⟩ := okWide_slice Try.underlying22 hok
  obtain ⟨fuel, hf⟩ := h
  rcases open_strings Try.underlying22 Try.underlying9 fillsCells.1 hf with ⟨hcs, hx⟩ | ⟨a, len', cap', ss, hcs, _, hl, hm, hz, hx, hcell, hsz⟩
  · simp [Value.cells] at hcs
    obtain ⟨rfl, rfl, rfl⟩ := hcs
    exact ⟨none, [], 0, rfl, fun i s h => by simp at h, by simp⟩
  · simp [Value.cells] at hcs
    obtain ⟨rfl, rfl, rfl⟩ := hcs
    simp at hz
    unfold maxLen at hm
    have hlen : (ss.take len).length = len := by rw [List.length_take, Nat.min_eq_left (by omega)]
    refine ⟨some a, ss.take len, cap, by rw [hlen], fun i s hs => ?_, by rw [hlen]; omega⟩
    have hi : i < len := by have := (List.getElem?_eq_some_iff.1 hs).1; omega
    have hc := hcell i (by omega)
    rw [List.getElem?_take, if_pos hi] at hs
    rw [List.getD_eq_getElem?_getD, hs] at hc
    have hsp : a.spot = none := by
      obtain ⟨e, n, _, _, h3⟩ := World.shape?_of_cell? hc
      by_cases h0 : i = 0
      · subst h0
        have : a.add 0 = a := by cases a; simp [Addr.add]
        rwa [this] at h3
      · have h4 := hcell 0 (by omega)
        obtain ⟨e, n, _, _, h5⟩ := World.shape?_of_cell? h4
        have : a.add 0 = a := by cases a; simp [Addr.add]
        rwa [this] at h5
    obtain ⟨k, o, sp⟩ := a
    simp at hsp
    subst hsp
    rw [Addr.add_lit] at hc
    exact ⟨k, o, rfl, hc⟩

set_option maxRecDepth 100000 in
theorem fills_ints {H : Type} {enc : TypeId × Value → H} {W : World} {base : Nat} {v : Value} {d : DataW H} {ps : List MemPlace} (hok : Value.okWide Try.prog W .any base 42 v) (h : DataW.Trod enc Try.prog W 0 (fun _ => true) true 42 v d ps) :
    ∃ ao ss c, v = .slice ao ss.length c ∧ Sim.IntO W ao ss ∧ ss.length ≤ 9223372036854775807 := by
  obtain ⟨a0, len, cap, rfl⟩ := okWide_slice Try.underlying42 hok
  obtain ⟨fuel, hf⟩ := h
  rcases open_ints Try.underlying42 Try.underlying3 fillsCells.2 hf with ⟨hcs, hx⟩ | ⟨a, len', cap', ss, hcs, _, hl, hm, hz, hx, hcell, hsz⟩
  · simp [Value.cells] at hcs
    obtain ⟨rfl, rfl, rfl⟩ := hcs
    exact ⟨none, [], 0, rfl, fun i s h => by simp at h, by simp⟩
  · simp [Value.cells] at hcs
    obtain ⟨rfl, rfl, rfl⟩ := hcs
    simp at hz
    unfold maxLen at hm
    have hlen : (ss.take len).length = len := by rw [List.length_take, Nat.min_eq_left (by omega)]
    refine ⟨some a, ss.take len, cap, by rw [hlen], fun i s hs => ?_, by rw [hlen]; omega⟩
    have hi : i < len := by have := (List.getElem?_eq_some_iff.1 hs).1; omega
    have hc := hcell i (by omega)
    rw [List.getElem?_take, if_pos hi] at hs
    rw [List.getD_eq_getElem?_getD, hs] at hc
    have hsp : a.spot = none := by
      have h4 := hcell 0 (by omega)
      obtain ⟨e, n, _, _, h5⟩ := World.shape?_of_cell? h4
      have : a.add 0 = a := by cases a; simp [Addr.add]
      rwa [this] at h5
    obtain ⟨k, o, sp⟩ := a
    simp at hsp
    subst hsp
    rw [Addr.add_lit] at hc
    exact ⟨k, o, rfl, hc⟩

set_option maxRecDepth 100000 in
theorem fills_lifted (os : Os) (started : os.Started) (H : Type) (enc : TypeId × Value → H) :
    ReturnsInLeavingWide {} Try.checked os 6 .any (Rows.fillsSpec.pre6 enc Try.prog Try.f6 Rows.fillsRow.domain false) (Rows.fillsSpec.post enc Try.prog Try.f6 false true false false) := by
  refine leaving_of_runs (C := Try.checked) (f := 6) (fn := Try.f6) fillsKnob started Try.func6 (of_decide_eq_true (by kernel_rfl))
    (ChangeSpec.witness6 (enc := enc) (C := Try.checked) false ⟨#[], #[.slice none 0 0, .slice none 0 0], []⟩ 6 (by kernel_rfl) (by kernel_rfl) (by kernel_rfl) (by kernel_rfl)) ?_
  intro W base args ds gs before hroom hval0 hW
  have hval : ∀ (j : Nat) t v, Try.f6.params[j]? = some t → args[j]? = some v → Value.okWide Try.prog W .any base t v := hval0
  have hW' := hW
  obtain ⟨p, q, hA0, hV, rfl, hfz, hnd⟩ := hW
  have hA : DataW.TrodAll enc Try.prog W 0 (fun _ => true) true Try.f6.params.toList args.toList ds p := hA0
  rw [Try.params6] at hA hval
  obtain ⟨v0, v1, d0, d1, p0, p1, rfl, rfl, rfl, h0, h1⟩ := trodAll_two hA
  obtain ⟨rfl, rfl⟩ := trodVars_none hV
  obtain ⟨ao, ks, c0, rfl, a2, a3⟩ := fills_strs (hval 0 22 v0 rfl rfl) h0
  obtain ⟨co, is, c1, rfl, b2, b3⟩ := fills_ints (hval 1 42 v1 rfl rfl) h1
  clear hA0 hval0
  simp only [List.append_nil] at hW'
  have hlt0 : ∀ x ∈ p0, x.block < W.heap.size := fun x hx => hW'.lt x (by simp [hx])
  have hlt1 : ∀ x ∈ p1, x.block < W.heap.size := fun x hx => hW'.lt x (by simp [hx])
  refine Sim.m_6 (W := W) (ks := ks) (is := is) (ao := ao) (co := co) (c0 := c0) (c1 := c1) (Post := fun v W' => Rows.fillsSpec.post enc Try.prog Try.f6 false true false false W.blind #[.slice ao ks.length c0, .slice co is.length c1] v W'.blind) hroom a2 a3 b2 b3 fun w hb => ?_
  have hbelow : Below W.heap.size W (Sim.re w W.tape w.drawn) := ⟨hb.os, rfl, hb.output, hb.size, fun b h => hb.block b h⟩
  have hpost : Rows.fillsSpec.post enc Try.prog Try.f6 false true false false W #[.slice ao ks.length c0, .slice co is.length c1] (.bool true) (Sim.re w W.tape w.drawn) :=
    ⟨_, _, _, [], _, [], hW', trodAll_mk1 (shut_bool Try.underlying4 true), trodAll_mk2 (Below.trod fillsLaid (by kernel_rfl) (of_decide_eq_true (by kernel_rfl)) h0 hbelow hlt0) (Below.trod fillsLaid (by kernel_rfl) (of_decide_eq_true (by kernel_rfl)) h1 hbelow hlt1), rfl, hbelow.frame _, fun h => by cases h⟩
  have hfin := ChangeSpec.post_blind hpost
  exact hfin

theorem fills_holds : Rows.FillsSaid :=
  OpenClaim.holds_of_wide_leaving 6 Try.f6 rfl rfl rfl rfl rfl rfl rfl ⟨rfl, rfl, rfl, rfl, rfl⟩ rfl rfl rfl rfl rfl (by kernel_rfl) Try.func6 (by kernel_rfl)
    (of_decide_eq_true (by kernel_rfl)) (by unfold Func.isWrapper; first | (rw [if_pos (by decide +kernel)]; kernel_rfl) | (rw [if_neg (by decide +kernel)]; exact ⟨rfl, rfl⟩))
    (fun os started H enc _ => fills_lifted os started H enc)

end Go.Proofs.Ytcgjppacnhmjlaa
end
