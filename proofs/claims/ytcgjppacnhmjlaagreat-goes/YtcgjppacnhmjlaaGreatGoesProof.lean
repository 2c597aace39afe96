/- A script as it is handed in, with the steps within its steps. Goes: for every script handed in, the call returns true, on every schedule, and leaves the script as it was. -/
import Derived.Test.YtcgjppacnhmjlaaGreatOpOpen
import Derived.Test.YtcgjppacnhmjlaaGreatTwinL
set_option linter.unusedVariables false
set_option linter.unusedSimpArgs false
namespace Go.Proofs.YtcgjppacnhmjlaaGreat

section
open Go.ChangeShapes Go.WideShapes Go.ChangeAt Go.RowKit Go.Deep

section
variable {H : Type} {enc : TypeId × Value → H} {W : World}
set_option maxRecDepth 100000 in
theorem ops_in {fuel : Nat} {a0 : Option Addr} {len cap : Nat} {x : DataW H × List MemPlace} (hf : DataW.trod enc Tryz.prog W 0 (fun _ => true) true fuel 22 [.slice a0 len cap] = some x) :
    ∃ ops, OpsAt W (.slice a0 len cap) ops ∧ ops.length ≤ 9223372036854775807 ∧ ∀ o ∈ ops, OpFits o := by
  rcases open_slice Tryz.underlying22 hf with ⟨hcs, _⟩ | ⟨a, len', cap', m, n, D, Pl, hcs, _, hl, hm, hmm, _, hx⟩
  · simp at hcs
    obtain ⟨rfl, rfl, rfl⟩ := hcs
    exact ⟨[], ⟨none, 0, 0, 0, rfl, fun i o h => by simp at h⟩, by simp, fun o h => by cases h⟩
  · simp at hcs
    obtain ⟨rfl, rfl, rfl⟩ := hcs
    simp at hmm
    subst hmm
    unfold maxLen at hm
    by_cases h0 : len = 0
    · subst h0
      exact ⟨[], ⟨_, 0, 0, _, rfl, fun i o h => by simp at h⟩, by simp, fun o h => by cases h⟩
    · have hsp : a.spot = none := by
        obtain ⟨cs', h1, _⟩ := hx 0 (by omega)
        obtain ⟨_, hlen, hcell⟩ := World.cells?_some h1
        rw [cells9] at hlen hcell
        have h2 := hcell 0 (by omega)
        have : (a.add (0 * 9)).add 0 = a := by cases a; simp [Addr.add]
        rw [this] at h2
        obtain ⟨u, hu⟩ : ∃ u, cs'[0]? = some u := ⟨_, List.getElem?_eq_getElem (by omega)⟩
        rw [hu] at h2
        exact World.cell?_spot h2
      obtain ⟨k, p, sp⟩ := a
      simp at hsp
      subst hsp
      obtain ⟨f, hfn⟩ := choose_lt (n := len) (p := fun i o => OpFits o ∧ OpCells W k (p + i * 9) o) (fun i hi => by
        obtain ⟨cs', h1, h2⟩ := hx i (by omega)
        rw [cells9, Addr.add_lit] at h1
        exact op_open h1 h2)
      refine ⟨(List.range len).map f, ⟨some ⟨k, p, none⟩, k, p, _, by simp; rfl, fun i o ho => ?_⟩, by simp; omega, fun o ho => ?_⟩
      · have hi : i < len := by have := (List.getElem?_eq_some_iff.mp ho).1; simpa using this
        simp [hi] at ho
        subst ho
        exact ⟨rfl, (hfn i hi).2⟩
      · obtain ⟨i, hi, rfl⟩ := List.mem_map.mp ho
        exact (hfn i (List.mem_range.mp hi)).1
set_option maxRecDepth 100000 in
theorem op_good {fuel : Nat} {k p : Nat} {cs : List Value} {x : DataW H × List MemPlace} (h1 : W.cells? 0 ⟨k, p, none⟩ 9 = some cs) (h2 : DataW.trod enc Tryz.prog W 0 (fun _ => true) true fuel 39 cs = some x) : ∃ o, OpGood W o ∧ OpCells W k p o := by
  obtain ⟨_, hlen, hcell⟩ := World.cells?_some h1
  obtain ⟨xs, n, _, _, _, hxl, hf⟩ := DataW.trod_struct Tryz.underlying39 h2
  simp at hxl
  match cs, hlen with
  | [v0, v1, v2, v3, v4, v5, v6, v7, v8], _ =>
    have hs : ∀ i, i < 9 → (xs[i]?).isSome = true := fun i hi => by simp; omega
    have g0 : DataW.trod enc Tryz.prog W 0 (fun _ => true) true n 3 ((([v0, v1, v2, v3, v4, v5, v6, v7, v8] : List Value).drop 0).take (Tryz.prog.cellsOf 3)) = xs[0]? := hf 0 _ rfl
    rw [cellsI] at g0
    have g1 : DataW.trod enc Tryz.prog W 0 (fun _ => true) true n 3 ((([v0, v1, v2, v3, v4, v5, v6, v7, v8] : List Value).drop 1).take (Tryz.prog.cellsOf 3)) = xs[1]? := hf 1 _ rfl
    rw [cellsI] at g1
    have g2 : DataW.trod enc Tryz.prog W 0 (fun _ => true) true n 3 ((([v0, v1, v2, v3, v4, v5, v6, v7, v8] : List Value).drop 2).take (Tryz.prog.cellsOf 3)) = xs[2]? := hf 2 _ rfl
    rw [cellsI] at g2
    have g3 : DataW.trod enc Tryz.prog W 0 (fun _ => true) true n 9 ((([v0, v1, v2, v3, v4, v5, v6, v7, v8] : List Value).drop 3).take (Tryz.prog.cellsOf 9)) = xs[3]? := hf 3 _ rfl
    rw [cellsS] at g3
    have g4 : DataW.trod enc Tryz.prog W 0 (fun _ => true) true n 9 ((([v0, v1, v2, v3, v4, v5, v6, v7, v8] : List Value).drop 4).take (Tryz.prog.cellsOf 9)) = xs[4]? := hf 4 _ rfl
    rw [cellsS] at g4
    have g5 : DataW.trod enc Tryz.prog W 0 (fun _ => true) true n 3 ((([v0, v1, v2, v3, v4, v5, v6, v7, v8] : List Value).drop 5).take (Tryz.prog.cellsOf 3)) = xs[5]? := hf 5 _ rfl
    rw [cellsI] at g5
    have g6 : DataW.trod enc Tryz.prog W 0 (fun _ => true) true n 37 ((([v0, v1, v2, v3, v4, v5, v6, v7, v8] : List Value).drop 6).take (Tryz.prog.cellsOf 37)) = xs[6]? := hf 6 _ rfl
    rw [cellsP] at g6
    have g7 : DataW.trod enc Tryz.prog W 0 (fun _ => true) true n 22 ((([v0, v1, v2, v3, v4, v5, v6, v7, v8] : List Value).drop 7).take (Tryz.prog.cellsOf 22)) = xs[7]? := hf 7 _ rfl
    rw [cellsO] at g7
    have g8 : DataW.trod enc Tryz.prog W 0 (fun _ => true) true n 22 ((([v0, v1, v2, v3, v4, v5, v6, v7, v8] : List Value).drop 8).take (Tryz.prog.cellsOf 22)) = xs[8]? := hf 8 _ rfl
    rw [cellsO] at g8
    simp only [List.drop_zero, List.drop_succ_cons, List.take_succ_cons, List.take_zero] at g0 g1 g2 g3 g4 g5 g6 g7 g8
    obtain ⟨n0, rfl, _⟩ := int_any (hs 0 (by omega)) g0
    obtain ⟨n1, rfl, r1⟩ := int_any (hs 1 (by omega)) g1
    obtain ⟨n2, rfl, _⟩ := int_any (hs 2 (by omega)) g2
    obtain ⟨s3, rfl, r3⟩ := str_any (hs 3 (by omega)) g3
    obtain ⟨s4, rfl, r4⟩ := str_any (hs 4 (by omega)) g4
    obtain ⟨n5, rfl, r5⟩ := int_any (hs 5 (by omega)) g5
    obtain ⟨a6, l6, c6, rfl⟩ := slice_any Tryz.underlying37 (hs 6 (by omega)) g6
    obtain ⟨a7, l7, c7, rfl⟩ := slice_any Tryz.underlying22 (hs 7 (by omega)) g7
    obtain ⟨a8, l8, c8, rfl⟩ := slice_any Tryz.underlying22 (hs 8 (by omega)) g8
    obtain ⟨x7, hx7⟩ := Option.isSome_iff_exists.1 (hs 7 (by omega))
    obtain ⟨x8, hx8⟩ := Option.isSome_iff_exists.1 (hs 8 (by omega))
    rw [hx7] at g7
    rw [hx8] at g8
    obtain ⟨fs, f1, f2, f3⟩ := ops_in g7
    obtain ⟨ms, m1, m2, m3⟩ := ops_in g8
    refine ⟨⟨n0, n1, n2, s3, s4, n5, a6, l6, c6, a7, l7, c7, a8, l8, c8⟩, ⟨⟨r1, r3⟩, r4, r5, fs, ms, f1, m1, f2, m2, fun o' ho' => by rcases List.mem_append.mp ho' with h | h <;> first | exact f3 o' h | exact m3 o' h⟩, ?_⟩
    have e : ∀ j, j < 9 → W.cell? ⟨k, p + j, none⟩ = ([.int .i64 n0, .int .i64 n1, .int .i64 n2, .string s3, .string s4, .int .i64 n5, .slice a6 l6 c6, .slice a7 l7 c7, .slice a8 l8 c8] : List Value)[j]? := fun j hj => by
      have := hcell j hj
      rw [Addr.add_lit] at this
      exact this
    exact ⟨e 0 (by omega), e 1 (by omega), e 2 (by omega), e 3 (by omega), e 4 (by omega), e 5 (by omega), e 6 (by omega), e 7 (by omega), e 8 (by omega)⟩
set_option maxRecDepth 100000 in
theorem ops_good {base : Nat} {v : Value} {d : DataW H} {ps : List MemPlace} (hok : Value.okWide Tryz.prog W .any base 22 v) (h : DataW.Trod enc Tryz.prog W 0 (fun _ => true) true 22 v d ps) :
    ∃ ops, OpsAt W v ops ∧ ops.length ≤ 9223372036854775807 ∧ ∀ o ∈ ops, OpGood W o := by
  obtain ⟨a0, len, cap, rfl⟩ := okWide_slice Tryz.underlying22 hok
  obtain ⟨fuel, hf⟩ := h
  rcases open_slice Tryz.underlying22 hf with ⟨hcs, _⟩ | ⟨a, len', cap', m, n, D, Pl, hcs, _, hl, hm, hmm, _, hx⟩
  · simp [Value.cells] at hcs
    obtain ⟨rfl, rfl, rfl⟩ := hcs
    exact ⟨[], ⟨none, 0, 0, 0, rfl, fun i o h => by simp at h⟩, by simp, fun o h => by cases h⟩
  · simp [Value.cells] at hcs
    obtain ⟨rfl, rfl, rfl⟩ := hcs
    simp at hmm
    subst hmm
    unfold maxLen at hm
    by_cases h0 : len = 0
    · subst h0
      exact ⟨[], ⟨_, 0, 0, _, rfl, fun i o h => by simp at h⟩, by simp, fun o h => by cases h⟩
    · have hsp : a.spot = none := by
        obtain ⟨cs', h1, _⟩ := hx 0 (by omega)
        obtain ⟨_, hlen, hcell⟩ := World.cells?_some h1
        rw [cells9] at hlen hcell
        have h2 := hcell 0 (by omega)
        have : (a.add (0 * 9)).add 0 = a := by cases a; simp [Addr.add]
        rw [this] at h2
        obtain ⟨u, hu⟩ : ∃ u, cs'[0]? = some u := ⟨_, List.getElem?_eq_getElem (by omega)⟩
        rw [hu] at h2
        exact World.cell?_spot h2
      obtain ⟨k, p, sp⟩ := a
      simp at hsp
      subst hsp
      obtain ⟨f, hfn⟩ := choose_lt (n := len) (p := fun i o => OpGood W o ∧ OpCells W k (p + i * 9) o) (fun i hi => by
        obtain ⟨cs', h1, h2⟩ := hx i (by omega)
        rw [cells9, Addr.add_lit] at h1
        exact op_good h1 h2)
      refine ⟨(List.range len).map f, ⟨some ⟨k, p, none⟩, k, p, _, by simp; rfl, fun i o ho => ?_⟩, by simp; omega, fun o ho => ?_⟩
      · have hi : i < len := by have := (List.getElem?_eq_some_iff.mp ho).1; simpa using this
        simp [hi] at ho
        subst ho
        exact ⟨rfl, (hfn i hi).2⟩
      · obtain ⟨i, hi, rfl⟩ := List.mem_map.mp ho
        exact (hfn i (List.mem_range.mp hi)).1
end
end

section
open Go.ChangeShapes Go.WideShapes Go.ChangeAt Go.RowKit Go.Deep

theorem goes_any {w : World} {v : Value} {ops : List OpD} (hv : OpsAt w v ops) (hlen : ops.length ≤ 9223372036854775807) (hops : ∀ o ∈ ops, OpGood w o) :
    Calls Tryz.prog 5 #[v] w fun e w' => e = .returned (.bool true) ∧ Below w.heap.size w w' := by
  have HP : Hid (Calls Tryz.prog 7 #[v, .int .i64 7] w fun e w' => e = .returned (.bool true) ∧ Below w.heap.size w w') := played7_any rfl hv hlen hops
  clear hv hops
  go_enter Tryz.func5, Tryz.ntmps5
  go_wp2_with ((go_at_call 7; refine HP.out.mono ?_; rintro e w1 ⟨rfl, hb⟩))
  go_ret
  exact ⟨rfl, hb⟩

set_option maxRecDepth 100000 in
theorem goes_lifted (os : Os) (started : os.Started) (H : Type) (enc : TypeId × Value → H) :
    ReturnsInHanded {} Tryz.checked os 5 .any (Rows.goesSpec.pre6 enc Tryz.prog Tryz.f5 Rows.goesRow.domain false) (Rows.goesSpec.post enc Tryz.prog Tryz.f5 false true false false) := by
  refine returnsInHanded_of_change (C := Tryz.checked) ownKn started (by kernel_rfl) Tryz.func5
    (ChangeSpec.witness6 (enc := enc) (C := Tryz.checked) false ⟨#[], #[.slice none 0 0], []⟩ 8 (by kernel_rfl) (by kernel_rfl) (by kernel_rfl) (by kernel_rfl)) ?_
  intro W base args ds gs before hval0 hW hcnd _
  have hval : ∀ (j : Nat) t v, Tryz.f5.params[j]? = some t → args[j]? = some v → Value.okWide Tryz.prog W .any base t v := hval0
  have hW' := hW
  obtain ⟨p, q, hA0, hV, rfl, hfz, hnd⟩ := hW
  have hA : DataW.TrodAll enc Tryz.prog W 0 (fun _ => true) true Tryz.f5.params.toList args.toList ds p := hA0
  rw [Tryz.params5] at hA hval
  obtain ⟨v0, d0, rfl, rfl, h0⟩ := trodAll_one hA
  obtain ⟨rfl, rfl⟩ := trodVars_none hV
  obtain ⟨ops, a1, a2, a3⟩ := ops_good (hval 0 22 v0 rfl rfl) h0
  clear hA0 hval0
  simp only [List.append_nil] at hW'
  refine (goes_any a1 a2 a3).mono fun e W' ⟨he, hbelow⟩ => ?_
  subst he
  have hlt0 : ∀ x ∈ p, x.block < W.heap.size := fun x hx => hW'.lt x (by simp [hx])
  refine ⟨_, rfl, ?_⟩
  exact ⟨_, _, _, [], _, [], hW', trodAll_mk1 (shut_bool Tryz.underlying4 true), trodAll_mk1 (Below.trod laidOut (by kernel_rfl) (of_decide_eq_true (by kernel_rfl)) h0 hbelow hlt0), rfl, hbelow.frame _, fun h => by cases h⟩

theorem goes_holds : Rows.GoesSaid :=
  OpenClaim.holds_of_wide_leaving 5 Tryz.f5 rfl rfl rfl rfl rfl rfl rfl ⟨rfl, rfl, rfl, rfl, rfl⟩ rfl rfl rfl rfl rfl (by kernel_rfl) Tryz.func5 (by kernel_rfl)
    (of_decide_eq_true (by kernel_rfl)) (by unfold Func.isWrapper; first | (rw [if_pos (by decide +kernel)]; kernel_rfl) | (rw [if_neg (by decide +kernel)]; exact ⟨rfl, rfl⟩))
    (fun os started H enc _ => leaving_of_handed (goes_lifted os started H enc))
end

end Go.Proofs.YtcgjppacnhmjlaaGreat
