/- Copy and Union of an index. -/
import Derived.Test.YtcgjppacnhmjlaaUniF
import Derived.Test.YtcgjppacnhmjlaaLawFacts
set_option linter.unusedVariables false
set_option linter.unusedSimpArgs false
namespace Go.Proofs.Ytcgjppacnhmjlaa
open Go.RowKit
attribute [local go_sem ↓] Go.wp_at_zero Go.wp_at_succ

theorem run_storePointer {a : Addr} {p q : Option Addr} {w : World} (hc : w.cell? a = some (.pointer p)) (hz : w.frozen? a = false) :
    (callFunc 77 #[.pointer (some a), .pointer q]).run Try.prog w = .ok (.value (.tuple #[])) (w.setCell a (.pointer q)) := by
  rw [run_callFunc_extern (e := Extern.Atomic.storeT) Try.func77 (by kernel_rfl) (by kernel_rfl) (by kernel_rfl) (by kernel_rfl)]
  change (Sem.run Try.prog (do store (← asAddr (.pointer (some a))) (.pointer q) .atomic; pure (Value.tuple #[])) w).andThen _ = _
  simp [asAddr, hc, hz, run_store Try.prog w a (.pointer q) .atomic rfl, Result.andThen]
set_option maxRecDepth 100000 in
set_option maxHeartbeats 400000 in
theorem store_any {xb : Nat} {p q : Option Addr} {w : World} (hc : w.cell? ⟨xb, 0, none⟩ = some (.pointer p)) (hz : w.frozen? ⟨xb, 0, none⟩ = false) (hq : PtrOk w q) :
    Calls Try.prog 41 #[.pointer (some ⟨xb, 0, none⟩), .pointer q] w fun e w' => e = .returned (.tuple #[]) ∧ w' = w.setCell ⟨xb, 0, none⟩ (.pointer q) := by
  have hl := run_storePointer (q := q) hc hz
  have hcq := conv_to hq
  clear hq hc hz
  go_enter Try.func41, Try.ntmps41
  go_wp2
  go_end0
  exact ⟨rfl, rfl⟩

set_option maxRecDepth 100000 in
set_option maxHeartbeats 400000 in
theorem indexCopy_any {S : Nat → Prop} {w : World} {x : Nat} {l : List KV} (h : IndexAt S w x l) :
    Calls Try.prog 17 #[.pointer (some ⟨x, 0, none⟩)] w fun e w' => e = .returned (.pointer (some ⟨w.heap.size, 0, none⟩)) ∧ (∃ n tp, w'.heap[w.heap.size]? = some (.cells #[.pointer tp] 78 (0, 0)) ∧ TreeN S n w' tp l) ∧ w.heap.size < w'.heap.size ∧ Below w.heap.size w w' := by
  obtain ⟨n, tp, hx, hT⟩ := h.tree
  have hb0 : Below w.heap.size w (w.alloc (.cells #[.pointer none] 78)) := below_alloc w _
  have hb : ∀ w1, Below (w.alloc (.cells #[.pointer none] 78)).heap.size (w.alloc (.cells #[.pointer none] 78)) w1 → Below w.heap.size w w1 := fun w1 h1 => hb0.trans (h1.mono hb0.size)
  have hnew : ∀ w1, Below (w.alloc (.cells #[.pointer none] 78)).heap.size (w.alloc (.cells #[.pointer none] 78)) w1 → w1.heap[w.heap.size]? = some (.cells #[.pointer none] 78 (0, 0)) := fun w1 h1 => (h1.block _ (by simp)).trans (heap_alloc_new w _)
  have HL : Hid (∀ w1, Below (w.alloc (.cells #[.pointer none] 78)).heap.size (w.alloc (.cells #[.pointer none] 78)) w1 → Calls Try.prog 32 #[.pointer (some ⟨x, 0, none⟩)] w1 fun e w' => e = .returned (.pointer tp) ∧ w' = w1) := fun w1 h1 => load_any (idx_cell (((hb w1 h1).block x (idx_lt hx)).trans hx)) (hT.on (hb w1 h1)).ptr
  have HSt : Hid (∀ w1, Below (w.alloc (.cells #[.pointer none] 78)).heap.size (w.alloc (.cells #[.pointer none] 78)) w1 → Calls Try.prog 41 #[.pointer (some ⟨w.heap.size, 0, none⟩), .pointer tp] w1 fun e w' => e = .returned (.tuple #[]) ∧ Hid ((∃ n tq, w'.heap[w.heap.size]? = some (.cells #[.pointer tq] 78 (0, 0)) ∧ TreeN S n w' tq l) ∧ w.heap.size < w'.heap.size ∧ Below w.heap.size w w')) := fun w1 h1 => by
    refine (store_any (idx_cell (hnew w1 h1)) (idx_free (hnew w1 h1)) (hT.on (hb w1 h1)).ptr).mono ?_
    rintro e w' ⟨rfl, hw⟩
    have hbb : Below w.heap.size w w' := by rw [hw]; exact (hb w1 h1).setCell (Nat.le_refl _) _
    have hi : w'.heap[w.heap.size]? = some (.cells #[.pointer tp] 78 (0, 0)) := by rw [hw]; exact set_idx (hnew w1 h1)
    exact ⟨rfl, ⟨n, tp, hi, hT.on hbb⟩, idx_lt hi, hbb⟩
  have HB : Hid (Below (w.alloc (.cells #[.pointer none] 78)).heap.size (w.alloc (.cells #[.pointer none] 78)) (w.alloc (.cells #[.pointer none] 78)).drew) := (Below.refl _ _).drew
  clear hx hT h hb hnew hb0
  go_enter Try.func17, Try.ntmps17
  go_wp2_with (go_at_call 10; refine (new_any _).mono ?_; rintro e w' ⟨rfl, rfl⟩)
  go_region_held3 (fun _ => True) (trivial) (first
    | (go_at_call 32; refine (HL.out _ HB.out).mono ?_; rintro e w' ⟨rfl, rfl⟩)
    | (go_at_call 41; refine (HSt.out _ HB.out).mono ?_; rintro e w4 ⟨rfl, HEnd⟩))
  go_wp2
  go_ret
  exact ⟨rfl, HEnd.out⟩

/-- Union of trees, whatever the two are. -/
theorem unionTree_any {S : Nat → Prop} {w : World} {n1 n2 : Nat} {tp uq : Option Addr} {l m : List KV} (hS : Open S w) (hT : TreeN S n1 w tp l) (hU : TreeN S n2 w uq m) (hm : l.length + m.length ≤ 1000000) :
    Calls Try.prog 44 #[.pointer tp, .pointer uq] w fun e w' => ∃ n' tp', e = .returned (.pointer tp') ∧ TreeN S n' w' tp' (uni l m) ∧ Below w.heap.size w w' := by
  rcases hT with ⟨rfl, rfl⟩ | ⟨t, rfl, hR⟩
  · refine (union_nil uq w).mono ?_
    rintro e w' ⟨rfl, hw⟩
    subst hw
    exact ⟨n2, uq, rfl, by rw [nil_uni (srt_of hU)]; exact hU, Below.refl _ _⟩
  · rcases hU with ⟨rfl, rfl⟩ | ⟨u, rfl, hQ⟩
    · refine (union_none t w).mono ?_
      rintro e w' ⟨rfl, hw⟩
      subst hw
      exact ⟨n1, _, rfl, .inr ⟨t, rfl, hR⟩, Below.refl _ _⟩
    · refine (union_go 65 (c0 := []) (by simp) hS hR hQ (fun e _ => List.nil_prefix) (fun e _ => List.nil_prefix) hm).mono ?_
      rintro e w' ⟨t', rfl, h1, h2⟩
      exact ⟨65, _, rfl, .inr ⟨t', rfl, h1⟩, h2⟩

set_option maxRecDepth 100000 in
set_option maxHeartbeats 400000 in
/-- The function that Union hands to change. -/
theorem unionFn_any {S : Nat → Prop} {w : World} {y bx n1 : Nat} {tp : Option Addr} {l m : List KV} (hS : Open S w) (hT : TreeN S n1 w tp l) (hY : IndexAt S w y m) (hbx : w.cell? ⟨bx, 0, none⟩ = some (.pointer (some ⟨y, 0, none⟩))) (hm : l.length + m.length ≤ 1000000) :
    Calls Try.prog 43 #[.pointer tp, .pointer (some ⟨bx, 0, none⟩)] w fun e w' => ∃ n' tp', e = .returned (.pointer tp') ∧ TreeN S n' w' tp' (uni l m) ∧ Below w.heap.size w w' := by
  obtain ⟨n2, uq, hy, hU⟩ := hY.tree
  have hd : ∀ k, Below w.heap.size w (w.drewN k) := fun k => below_drawn w k
  have HL : Hid (∀ k, Calls Try.prog 32 #[.pointer (some ⟨y, 0, none⟩)] (w.drewN k) fun e w' => e = .returned (.pointer uq) ∧ w' = w.drewN k) := fun k => load_any (idx_cell (((hd k).block y (idx_lt hy)).trans hy)) (hU.on (hd k)).ptr
  have HU : Hid (∀ k, Calls Try.prog 44 #[.pointer tp, .pointer uq] (w.drewN k) fun e w' => ∃ n' tp', e = .returned (.pointer tp') ∧ TreeN S n' w' tp' (uni l m) ∧ Below w.heap.size w w') := fun k => (unionTree_any (hS.later (hd k)) (hT.on (hd k)) (hU.on (hd k)) hm).mono fun e w' he => by
    obtain ⟨n', tp', h1, h2, h3⟩ := he; exact ⟨n', tp', h1, h2, (hd k).trans (h3.mono (hd k).size)⟩
  clear hd hU hy hY hT
  go_enter Try.func43, Try.ntmps43
  go_wp2_with (first
    | (go_at_call 32; refine (HL.out 0).mono ?_; rintro e w' ⟨rfl, rfl⟩)
    | (go_at_call 44; refine (HU.out 0).mono ?_; rintro e w' ⟨n', tp', rfl, h1, h2⟩))
  go_ret
  exact ⟨n', tp', rfl, h1, h2⟩

set_option maxRecDepth 100000 in
set_option maxHeartbeats 1000000 in
/-- change, with the function that Union hands to it. -/
theorem change_union {S : Nat → Prop} {w : World} {x y bx : Nat} {l m : List KV} (hS : Open S w) (h : IndexAt S w x l) (hY : IndexAt S w y m) (hbx : w.cell? ⟨bx, 0, none⟩ = some (.pointer (some ⟨y, 0, none⟩))) (hf : l.length + m.length ≤ 3000) :
    Calls Try.prog 42 #[.pointer (some ⟨x, 0, none⟩), .func (.func 43) #[] #[.pointer (some ⟨bx, 0, none⟩)]] w fun e w' => e = .returned (.int .i64 0) ∧ IndexAt S w' x (uni l m) ∧ But x w w' := by
  obtain ⟨n, tp, hx, hT⟩ := h.tree
  have hlt := idx_lt hx
  have hfew : (uni l m).length ≤ 3000 := Nat.le_trans (len_uni_le (srt_of hT)) hf
  have HL : Hid (∀ w1, Below w.heap.size w w1 → Calls Try.prog 32 #[.pointer (some ⟨x, 0, none⟩)] w1 fun e w' => e = .returned (.pointer tp) ∧ w' = w1) := fun w1 hb => load_any (idx_cell ((hb.block x hlt).trans hx)) (hT.on hb).ptr
  have HF : Hid (∀ w1, Below w.heap.size w w1 → Calls Try.prog 43 #[.pointer tp, .pointer (some ⟨bx, 0, none⟩)] w1 fun e w' => ∃ n' tp', e = .returned (.pointer tp') ∧ TreeN S n' w' tp' (uni l m) ∧ Below w.heap.size w w') := fun w1 hb => (unionFn_any (hS.later hb) (hT.on hb) (hY.on hb) (cell_later hb hbx) (by omega)).mono fun e w' he => by
    obtain ⟨n', tp', h1, h2, h3⟩ := he; exact ⟨n', tp', h1, h2, hb.trans (h3.mono hb.size)⟩
  have HZ : Hid (∀ w1 n' tq, TreeN S n' w1 tq (uni l m) → Calls Try.prog 34 #[.pointer tq] w1 fun e w' => e = .returned (.int .i64 (uni l m).length) ∧ w' = w1) := fun w1 n' tq hq => size_any hq
  have HCa : Hid (∀ w1 n' tq L, Below w.heap.size w w1 → TreeN S n' w1 tq L → Calls Try.prog 35 #[.pointer (some ⟨x, 0, none⟩), .pointer tp, .pointer tq] w1 fun e w' => e = .returned (.bool true) ∧ w' = w1.setCell ⟨x, 0, none⟩ (.pointer tq)) := fun w1 n' tq L hb hq => cas_any (idx_cell ((hb.block x hlt).trans hx)) (idx_free ((hb.block x hlt).trans hx)) (hT.on hb).ptr hq.ptr
  have HEnd : Hid (∀ w1 n' tq, Below w.heap.size w w1 → TreeN S n' w1 tq (uni l m) → IndexAt S (w1.setCell ⟨x, 0, none⟩ (.pointer tq)) x (uni l m) ∧ But x w (w1.setCell ⟨x, 0, none⟩ (.pointer tq))) := fun w1 n' tq hb hq => ⟨IndexAt.swap ((hb.block x hlt).trans hx) h.out hq hfew, (But.of_below hb).trans (But.set x w1 _)⟩
  have HB0 : Hid (Below w.heap.size w w) := Below.refl _ _
  have hfI : ¬ (3000 : Int) < ((uni l m).length : Int) := by omega
  generalize (uni l m).length = un at *
  clear hx hT h hY hbx hfew
  go_enter Try.func42, Try.ntmps42
  go_wp2
  refine wp_loop_rounds 1 ?_
  rw [rounds_succ]
  go_wp2_with (first
    | (go_at_call 32; refine (HL.out _ HB0.out).mono ?_; rintro e w' ⟨rfl, rfl⟩)
    | (go_at_call 43; refine (HF.out _ HB0.out).mono ?_; rintro e w2 ⟨n', tq, rfl, hT2, hb2⟩)
    | (go_at_call 34; refine (HZ.out _ _ _ hT2).mono ?_; rintro e w' ⟨rfl, rfl⟩)
    | (go_at_call 35; refine (HCa.out _ _ _ _ hb2 hT2).mono ?_; rintro e w4 ⟨rfl, rfl⟩))
  go_ret
  exact ⟨rfl, HEnd.out _ _ _ hb2 hT2⟩

theorem infoIx : (Try.prog.info? 78).map (·.size) = some 1 := by kernel_rfl
theorem eql_idx {x y : Nat} {w : World} (hne : x ≠ y) {ca cb : Array Value} (ha : w.heap[x]? = some (.cells ca 78 (0, 0))) (hb : w.heap[y]? = some (.cells cb 78 (0, 0))) :
    (binOp .eql 25 (.pointer (some ⟨x, 0, none⟩)) (.pointer (some ⟨y, 0, none⟩))).run Try.prog w = .ok (.bool false) w := by
  obtain ⟨i, hi, hz⟩ := Option.map_eq_some_iff.1 infoIx
  exact run_eql_ptr_other w Try.underlying25 hi (by rw [hz]; decide) (fun h => hne (congrArg Addr.block h)) ha hb
set_option maxRecDepth 100000 in
set_option maxHeartbeats 400000 in
theorem indexUnion_any {S : Nat → Prop} {w : World} {x y : Nat} {l m : List KV} (hS : Open S w) (h : IndexAt S w x l) (hY : IndexAt S w y m) (hne : x ≠ y) (hf : l.length + m.length ≤ 3000) :
    Calls Try.prog 18 #[.pointer (some ⟨x, 0, none⟩), .pointer (some ⟨y, 0, none⟩)] w fun e w' => e = .returned (.int .i64 0) ∧ IndexAt S w' x (uni l m) ∧ But x w w' := by
  have hb := below_alloc w (.cells #[.pointer (some ⟨y, 0, none⟩)] 25)
  have HC : Hid (Calls Try.prog 42 #[.pointer (some ⟨x, 0, none⟩), .func (.func 43) #[] #[.pointer (some ⟨w.heap.size, 0, none⟩)]] (w.alloc (.cells #[.pointer (some ⟨y, 0, none⟩)] 25)) fun e w' => e = .returned (.int .i64 0) ∧ IndexAt S w' x (uni l m) ∧ But x w w') := (change_union (hS.later hb) (h.on hb) (hY.on hb) (by simp) hf).mono fun e w' he => ⟨he.1, he.2.1, (But.of_below hb).trans he.2.2⟩
  obtain ⟨n1, tp1, hx1, _⟩ := (h.on hb).tree
  obtain ⟨n2, tp2, hy1, _⟩ := (hY.on hb).tree
  have heq := eql_idx hne hx1 hy1
  clear h hY hb hx1 hy1
  go_enter Try.func18, Try.ntmps18
  go_wp2_with (go_at_call 42; refine HC.out.mono ?_; rintro e w' ⟨rfl, h1, h2⟩)
  go_ret
  exact ⟨rfl, h1, h2⟩

end Go.Proofs.Ytcgjppacnhmjlaa
