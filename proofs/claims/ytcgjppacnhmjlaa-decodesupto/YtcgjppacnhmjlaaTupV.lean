/- lent, back, sameInts, sameValues. -/
import Derived.Test.YtcgjppacnhmjlaaTupU
set_option linter.unusedVariables false
set_option linter.unusedSimpArgs false
namespace Go.Proofs.Ytcgjppacnhmjlaa
open Go.RowKit Go.Shelf
attribute [local go_sem ↓] Go.wp_at_zero Go.wp_at_succ

theorem wpList_copy_run {P : Program} {w w' : World} {ops : Array Oper} {rest : List Oper} {o : Oper} {a : Act} {Q : Exit → Act → World → Prop} (hgd : o.guard = none) (d s : Operand) (dT sT : TypeId)
    (ho : o.op = .call { callee := .builtin .copy, args := #[d, s], argTypes := #[dT, sT] }) (x y : Value) (n : Nat) (hd : a.eval d = x) (hs : a.eval s = y)
    (hrun : (Builtin.copy_ #[dT, sT] o.type #[x, y]).run P w = .ok (goInt n) w') (h : wpList P ops Q rest (a.put o.dst (goInt n)) w') : wpList P ops Q (o :: rest) a w := by
  refine wpList_plain hgd fun K hK => ?_
  unfold Oper.wp
  simp [execOp, ho, resolve, invoke, builtin, hd, hs, hrun, Result.andThen]
  exact hK _ _ h
theorem infoI : (Try.prog.info? 3).map (fun i => (i.zero, i.size, i.bytes)) = some (some (.int .i64 0), 1, 8) := by kernel_rfl
theorem infoI1 : (Try.prog.info? 3).map (·.size) = some 1 := by kernel_rfl
theorem infoV3 : (Try.prog.info? 62).map (·.size) = some 3 := by kernel_rfl
def intCells (ks : List Int) : List Value := ks.map (Value.int .i64)
theorem intCells_get (ks : List Int) (j : Nat) (v : Value) (h : (intCells ks)[j]? = some v) : ∃ k, ks[j]? = some k ∧ v = .int .i64 k := by
  unfold intCells at h
  rw [List.getElem?_map] at h
  obtain ⟨k, h1, h2⟩ := Option.map_eq_some_iff.mp h
  exact ⟨k, h1, h2.symm⟩
/-- A schema that was lent: its numbers, and one behind. -/
abbrev Lent (w : World) (g : Nat) (ks : List Int) (last : Int) : Prop := w.ownsRow 0 3 1 (.slice (some ⟨g, 0, none⟩) (ks.length + 1) (ks.length + 1)) (ks.length + 1) (intCells ks ++ [.int .i64 last])
theorem Lent.ints {w : World} {g : Nat} {ks : List Int} {last : Int} (h : Lent w g ks last) : IntsAt w (.slice (some ⟨g, 0, none⟩) ks.length (ks.length + 1)) ks := by
  refine ⟨_, g, 0, ks.length + 1, rfl, by omega, fun i k hk => ⟨rfl, ?_⟩⟩
  have hlt := (List.getElem?_eq_some_iff.mp hk).1
  have := rowCells h (j := i) (u := .int .i64 k) (by rw [List.getElem?_append_left (by simpa [intCells] using hlt)]; simp [intCells, hk])
  simpa using this
theorem Lent.last {w : World} {g : Nat} {ks : List Int} {last : Int} (h : Lent w g ks last) : w.cell? ⟨g, ks.length, none⟩ = some (.int .i64 last) := by
  apply rowCells h
  rw [List.getElem?_append_right (by simp [intCells])]
  simp [intCells]

theorem lent_end {w2 : World} {g : Nat} {ks : List Int} {xs : List Value} (hlx : xs.length = (ks.length + 1) * 1) (h : w2.ownsRow 0 3 1 (.slice (some ⟨g, 0, none⟩) (ks.length + 1) (ks.length + 1)) (ks.length + 1) (intCells ks ++ xs.drop (ks.length * 1))) : Lent (w2.setCell ⟨g, ks.length, none⟩ (.int .i64 (-77))) g ks (-77) := by
  have := (h.stored ks.length (.int .i64 (-77))).1
  have e : (intCells ks ++ xs.drop (ks.length * 1)).set ks.length (.int .i64 (-77)) = intCells ks ++ [.int .i64 (-77)] := by
    have hl : (intCells ks).length = ks.length := by simp [intCells]
    rw [List.set_append_right _ _ (by omega), hl, Nat.sub_self]
    congr 1
    have h1 : (xs.drop (ks.length * 1)).length = 1 := by rw [List.length_drop, hlx]; omega
    match hh : xs.drop (ks.length * 1), h1 with
    | [a], _ => rfl
  rw [e] at this
  exact this
set_option maxRecDepth 100000 in
set_option maxHeartbeats 1000000 in
theorem lent_any {w : World} {x : Value} {ks : List Int} (hx : IntsAt w x ks) (hl : ks.length ≤ 1048576) :
    Calls Try.prog 26 #[x] w fun e w' => e = .returned (.slice (some ⟨w.heap.size, 0, none⟩) (ks.length + 1) (ks.length + 1)) ∧ Lent w' w.heap.size ks (-77) ∧ Below w.heap.size w w' := by
  obtain ⟨i0, hi0, hz0, hz1, hz2⟩ := info_parts infoI
  obtain ⟨ao, kb, p, cap, rfl, hcap, hc⟩ := hx
  have HCopy : Hid (∀ w1 xs ty, w1.ownsRow 0 3 1 (.slice (some ⟨w.heap.size, 0, none⟩) (ks.length + 1) (ks.length + 1)) (ks.length + 1) xs → Below w.heap.size w w1 → ∃ w2, (Builtin.copy_ #[42, 42] ty #[.slice (some ⟨w.heap.size, 0, none⟩) (ks.length + 1) (ks.length + 1), .slice ao ks.length cap]).run Try.prog w1 = .ok (goInt ks.length) w2 ∧ w2.ownsRow 0 3 1 (.slice (some ⟨w.heap.size, 0, none⟩) (ks.length + 1) (ks.length + 1)) (ks.length + 1) (intCells ks ++ xs.drop (ks.length * 1)) ∧ Below w.heap.size w1 w2) := fun w1 xs ty hrow hb =>
    copy_front 42 42 ty 3 1 Try.underlying42 infoI1 hrow (by simp [intCells]) (fun j v hj => by
      obtain ⟨k, hk, rfl⟩ := intCells_get ks j v hj
      obtain ⟨e, h⟩ := hc j k hk
      exact ⟨_, e, by rw [Addr.add_lit]; exact cell_later hb h⟩) (fun v hv => by
      obtain ⟨j, hj⟩ := List.getElem?_of_mem hv
      obtain ⟨k, _, rfl⟩ := intCells_get ks j v hj
      rfl) (by decide)
  clear hc
  have hnI : (ks.length : Int) < (ks.length : Int) + 1 := by omega
  go_enter Try.func26, Try.ntmps26
  go_wp2_with (
    (refine wpList_make_full _ rfl _ _ _ rfl 0 3 i0 (.int .i64 0) 1 Try.underlying42 hi0 hz0 hz1 .i64 .i64 _ _ (ks.length + 1) rfl rfl (by omega) (by omega) (by rw [hz2]; omega) (by unfold maxLen; omega) (Nat.zero_le _) ?_; intro w1 hown hgrow; have hb1 : Below w.heap.size w w1 := ⟨hgrow.os, hgrow.tape, hgrow.output, hgrow.size, fun k hk => hgrow.block k hk (by simp)⟩; obtain ⟨w2, hrun, hrow2, hb2⟩ := HCopy.out _ _ 3 hown hb1; have hlx := hown.1; have hfz := hrow2.frozenAt ks.length; obtain ⟨last, hlast⟩ : ∃ v, w2.cell? ⟨w.heap.size, ks.length, none⟩ = some v := ⟨_, rowCells hrow2 (List.getElem?_eq_getElem (by have := hrow2.1; omega))⟩; have HR2 : Hid (Lent (w2.setCell ⟨w.heap.size, ks.length, none⟩ (.int .i64 (-77))) w.heap.size ks (-77)) := lent_end hlx hrow2; have HB2 : Hid (Below w.heap.size w w2) := hb1.trans hb2; clear hrow2 hown hgrow hlx hb2))
  go_ret
  exact ⟨rfl, HR2.out, HB2.out.setCell (Nat.le_refl _) _⟩

set_option maxRecDepth 100000 in
set_option maxHeartbeats 1000000 in
theorem sameInts_any {w : World} {x y : Value} {ks : List Int} (hx : IntsAt w x ks) (hy : IntsAt w y ks) (hl : ks.length ≤ 1048576) :
    Calls Try.prog 61 #[x, y] w fun e w' => e = .returned (.bool true) ∧ Below w.heap.size w w' := by
  obtain ⟨ao, kb, p, cap, rfl, hcap, hc⟩ := hx
  obtain ⟨ao2, kb2, p2, cap2, rfl, hcap2, hc2⟩ := hy
  have HC : Hid (∀ w1, Below w.heap.size w w1 → ∀ (i : Nat) k, ks[i]? = some k → (ao = some ⟨kb, p, none⟩ ∧ w1.cell? ⟨kb, p + i, none⟩ = some (.int .i64 k)) ∧ ao2 = some ⟨kb2, p2, none⟩ ∧ w1.cell? ⟨kb2, p2 + i, none⟩ = some (.int .i64 k)) := fun w1 hb i k hk => ⟨⟨(hc i k hk).1, cell_later hb (hc i k hk).2⟩, (hc2 i k hk).1, cell_later hb (hc2 i k hk).2⟩
  clear hc hc2
  go_enter Try.func61, Try.ntmps61
  go_wp2
  go_loopg [5] ks.length (fun gk s5 wr => ∃ i : Nat, s5 = .int .i64 i ∧ i ≤ ks.length ∧ gk = ks.length - i ∧ Hid (Below w.heap.size w wr))
  case atStart => exact ⟨0, rfl, by omega, rfl, Below.refl _ _⟩
  case round =>
    obtain ⟨i, rfl, hi, rfl, HB⟩ := hrel
    by_cases hlt : i < ks.length
    · obtain ⟨k, hk⟩ : ∃ k, ks[i]? = some k := ⟨_, List.getElem?_eq_getElem hlt⟩
      obtain ⟨⟨rfl, c0⟩, rfl, c1⟩ := HC.out _ HB.out i k hk
      have hltI : (i : Int) < (ks.length : Int) := by omega
      clear hk
      go_wp2
      go_quiet (fail)
      go_wp2
      go_roundg (ks.length - (i + 1))
      case measure => omega
      case rel => exact ⟨i + 1, by go_num, by omega, rfl, belowN HB.out _⟩
    · have hltI : ¬ (i : Int) < (ks.length : Int) := by omega
      go_wp2
      go_ret
      exact ⟨rfl, HB.out⟩
set_option maxRecDepth 100000 in
set_option maxHeartbeats 1000000 in
theorem sameValues_any {w : World} {x y : Value} {vs : List ValD} (hx : ValsAt w x vs) (hy : ValsAt w y vs) (hl : vs.length ≤ 1048576) :
    Calls Try.prog 29 #[x, y] w fun e w' => e = .returned (.bool true) ∧ Below w.heap.size w w' := by
  obtain ⟨ao, kb, p, cap, rfl, hcap, hc⟩ := hx
  obtain ⟨ao2, kb2, p2, cap2, rfl, hcap2, hc2⟩ := hy
  have HC : Hid (∀ w1, Below w.heap.size w w1 → ∀ (i : Nat) u, vs[i]? = some u → (ao = some ⟨kb, p, none⟩ ∧ w1.cell? ⟨kb, p + i * 3, none⟩ = some (.int .u64 u.u) ∧ w1.cell? ⟨kb, p + i * 3 + 1, none⟩ = some (.int .i64 u.i) ∧ w1.cell? ⟨kb, p + i * 3 + 2, none⟩ = some (.string ⟨u.s.toArray⟩)) ∧ ao2 = some ⟨kb2, p2, none⟩ ∧ w1.cell? ⟨kb2, p2 + i * 3, none⟩ = some (.int .u64 u.u) ∧ w1.cell? ⟨kb2, p2 + i * 3 + 1, none⟩ = some (.int .i64 u.i) ∧ w1.cell? ⟨kb2, p2 + i * 3 + 2, none⟩ = some (.string ⟨u.s.toArray⟩)) := fun w1 hb i u hk => ⟨⟨(hc i u hk).1, cell_later hb (hc i u hk).2.1, cell_later hb (hc i u hk).2.2.1, cell_later hb (hc i u hk).2.2.2⟩, (hc2 i u hk).1, cell_later hb (hc2 i u hk).2.1, cell_later hb (hc2 i u hk).2.2.1, cell_later hb (hc2 i u hk).2.2.2⟩
  clear hc hc2
  go_enter Try.func29, Try.ntmps29
  go_wp2
  go_loopg [5] vs.length (fun gk s5 wr => ∃ i : Nat, s5 = .int .i64 i ∧ i ≤ vs.length ∧ gk = vs.length - i ∧ Hid (Below w.heap.size w wr))
  case atStart => exact ⟨0, rfl, by omega, rfl, Below.refl _ _⟩
  case round =>
    obtain ⟨i, rfl, hi, rfl, HB⟩ := hrel
    by_cases hlt : i < vs.length
    · obtain ⟨u, hu⟩ : ∃ u, vs[i]? = some u := ⟨_, List.getElem?_eq_getElem hlt⟩
      obtain ⟨⟨rfl, c0, c1, c2⟩, rfl, d0, d1, d2⟩ := HC.out _ HB.out i u hu
      have hltI : (i : Int) < (vs.length : Int) := by omega
      clear hu
      go_wp2
      go_quiet (fail)
      go_wp2
      go_roundg (vs.length - (i + 1))
      case measure => omega
      case rel => exact ⟨i + 1, by go_num, by omega, rfl, belowN HB.out _⟩
    · have hltI : ¬ (i : Int) < (vs.length : Int) := by omega
      go_wp2
      go_ret
      exact ⟨rfl, HB.out⟩
/-- Outside block g the world holds what it held. -/
structure Bt (g : Nat) (w w' : World) : Prop where
  os : w'.os = w.os
  tape : w'.tape = w.tape
  output : w'.output = w.output
  size : w.heap.size ≤ w'.heap.size
  block : ∀ k, k < w.heap.size → k ≠ g → w'.heap[k]? = w.heap[k]?
theorem Bt.of_below {g : Nat} {w w' : World} (h : Below w.heap.size w w') : Bt g w w' := ⟨h.os, h.tape, h.output, h.size, fun k hk _ => h.block k hk⟩
theorem Bt.set {g : Nat} {w w' : World} (h : Bt g w w') (i : Nat) (v : Value) : Bt g w (w'.setCell ⟨g, i, none⟩ v) :=
  ⟨h.os, h.tape, h.output, Nat.le_trans h.size (by simp [World.setCell]), fun k hk hg => (Below.heap_setCell _ _ _ _ hg).trans (h.block k hk hg)⟩
theorem Bt.below {g B : Nat} {w0 w w' : World} (h : Bt g w w') (hb : Below B w0 w) (hg : B ≤ g) (hB : B ≤ w.heap.size) : Below B w0 w' :=
  hb.trans ⟨h.os, h.tape, h.output, h.size, fun k hk => h.block k (by omega) (by omega)⟩
set_option maxRecDepth 100000 in
set_option maxHeartbeats 1000000 in
theorem backL_any {w : World} {g : Nat} {y : Value} {ks : List Int} (hx : Lent w g ks (-77)) (hy : IntsAt w y ks) (hl : ks.length ≤ 1048576) :
    Calls Try.prog 28 #[.slice (some ⟨g, 0, none⟩) (ks.length + 1) (ks.length + 1), y] w fun e w' => e = .returned (.bool true) ∧ Bt g w w' := by
  have HS : Hid (Calls Try.prog 61 #[.slice (some ⟨g, 0, none⟩) ks.length (ks.length + 1), y] w fun e w' => e = .returned (.bool true) ∧ Below w.heap.size w w') := sameInts_any hx.ints hy hl
  have hgl := rowLt hx rfl
  have HL : Hid (∀ w1, Below w.heap.size w w1 → w1.cell? ⟨g, ks.length, none⟩ = some (.int .i64 (-77))) := fun w1 hb => cell_later hb hx.last
  have HR : Hid (∀ w1, Below w.heap.size w w1 → ∃ xs, w1.ownsRow 0 3 1 (.slice (some ⟨g, 0, none⟩) (ks.length + 1) (ks.length + 1)) (ks.length + 1) xs) := fun w1 hb => ⟨_, rowOn hx fun k e => hb.block k (rowLt hx e)⟩
  obtain ⟨ao2, kb2, p2, cap2, rfl, hcap2, hc2⟩ := hy
  clear hx hc2
  have hnI : (ks.length : Int) < (ks.length : Int) + 1 := by omega
  have hnI2 : (ks.length : Int) ≤ (ks.length : Int) + 1 := by omega
  go_enter Try.func28, Try.ntmps28
  go_wp2_with ((go_at_call 61; refine HS.out.mono ?_; rintro e w1 ⟨rfl, hb1⟩; have h77 := HL.out _ hb1))
  clear h77
  go_loopg [8] (ks.length + 1) (fun gk s8 wr => ∃ i : Nat, s8 = .int .i64 i ∧ i ≤ ks.length + 1 ∧ gk = ks.length + 1 - i ∧ Hid (Bt g w wr ∧ ∃ xs, wr.ownsRow 0 3 1 (.slice (some ⟨g, 0, none⟩) (ks.length + 1) (ks.length + 1)) (ks.length + 1) xs))
  case atStart => exact ⟨0, rfl, by omega, rfl, Bt.of_below hb1, HR.out _ hb1⟩
  case round =>
    obtain ⟨i, rfl, hi, rfl, HB⟩ := hrel
    by_cases hlt : i < ks.length + 1
    · have hltI : (i : Int) ≤ (ks.length : Int) := by omega
      have hltI2 : (i : Int) < (ks.length : Int) + 1 := by omega
      obtain ⟨q1, xs, q2⟩ := HB.out
      obtain ⟨v, hv⟩ : ∃ v, wr.cell? ⟨g, i, none⟩ = some v := ⟨_, rowCells q2 (List.getElem?_eq_getElem (by have := q2.1; omega))⟩
      have hfz := q2.frozenAt i
      have HN : Hid (Bt g w (wr.setCell ⟨g, i, none⟩ (.int .i64 (-99))) ∧ ∃ xs, (wr.setCell ⟨g, i, none⟩ (.int .i64 (-99))).ownsRow 0 3 1 (.slice (some ⟨g, 0, none⟩) (ks.length + 1) (ks.length + 1)) (ks.length + 1) xs) := ⟨q1.set i _, _, (q2.stored i _).1⟩
      clear q1 q2
      go_wp2
      go_roundg (ks.length + 1 - (i + 1))
      case measure => omega
      case rel => exact ⟨i + 1, by go_num, by omega, rfl, HN.out⟩
    · have hltI : ¬ (i : Int) ≤ (ks.length : Int) := by omega
      go_wp2
      go_ret
      exact ⟨rfl, HB.out.1⟩

end Go.Proofs.Ytcgjppacnhmjlaa
