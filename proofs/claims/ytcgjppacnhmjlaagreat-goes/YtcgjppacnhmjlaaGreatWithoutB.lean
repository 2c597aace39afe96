/- Without, way by way, of a tree that is there. -/
import Derived.Test.YtcgjppacnhmjlaaGreatWithout
import Derived.LaidEqlPtr
set_option linter.unusedVariables false
set_option linter.unusedSimpArgs false
namespace Go.Proofs.YtcgjppacnhmjlaaGreat
open Go.RowKit
attribute [local go_sem ↓] Go.wp_at_zero Go.wp_at_succ

theorem infoT : (Tryz.prog.info? 71).map (fun i => (i.zero, i.size, i.bytes)) = some (some (.agg #[.string ⟨#[]⟩, .pointer none, .slice none 0 0, .int .i64 0]), 4, 56) := by kernel_rfl
/-- A pointer to a tree is itself. -/
theorem eql_same (c : Nat) (w : World) : (binOp .eql 56 (.pointer (some ⟨c, 0, none⟩)) (.pointer (some ⟨c, 0, none⟩))).run Tryz.prog w = .ok (.bool true) w := by
  obtain ⟨i0, hi0, _⟩ := info_parts infoT
  exact run_eql_ptr_same w _ Tryz.underlying56 hi0
theorem eql_other {c d : Nat} {w : World} (hne : ¬ c = d) {a b : Array Value} (ha : w.heap[c]? = some (.cells a 71 (0, 0))) (hb : w.heap[d]? = some (.cells b 71 (0, 0))) :
    (binOp .eql 56 (.pointer (some ⟨c, 0, none⟩)) (.pointer (some ⟨d, 0, none⟩))).run Tryz.prog w = .ok (.bool false) w := by
  obtain ⟨i0, hi0, _, h4, _⟩ := info_parts infoT
  exact run_eql_ptr_other w Tryz.underlying56 hi0 (by rw [h4]; decide) (fun h => hne (congrArg Addr.block h)) ha hb

theorem eql_nil (c : Nat) (w : World) : (binOp .eql 56 (.pointer none) (.pointer (some ⟨c, 0, none⟩))).run Tryz.prog w = .ok (.bool false) w := by
  have h : ∀ d : Nat, (Op.equalIn (d + 1) 56 (.pointer none) (.pointer (some ⟨c, 0, none⟩))).run Tryz.prog w = .ok false w := fun d => by
    simp [Op.equalIn, run_underlying Tryz.underlying56]
  simp only [binOp]
  simp [Op.equal, Op.maxDepth, h 9999]

theorem without_nil (key : ByteArray) (w : World) : Calls Tryz.prog 69 #[.pointer none, .string key] w fun e w' => e = .returned (.pointer none) ∧ w' = w := by
  go_enter Tryz.func69, Tryz.ntmps69
  go_wp2
  go_ret
  exact ⟨rfl, rfl⟩
set_option maxHeartbeats 400000 in
theorem without_apart {w : World} {t : Nat} {key pre : ByteArray} (hpc : w.cell? ⟨t, 0, none⟩ = some (.string pre)) (hk : key.size ≤ 9223372036854775807) (hps : pre.size ≤ 64) (hp : Lib.hasPrefix key.data.toList pre.data.toList = false) :
    Calls Tryz.prog 69 #[.pointer (some ⟨t, 0, none⟩), .string key] w fun e w' => e = .returned (.pointer (some ⟨t, 0, none⟩)) ∧ w' = w := by
  have HP : Hid (∀ w1, Calls Tryz.prog 45 #[.string key, .string pre] w1 fun e w' => e = .returned (.bool false) ∧ w' = w1) := fun w1 => (hasPrefix_any key pre w1 hk (by unfold maxLen; omega)).mono fun e w' h => ⟨by rw [h.1, hp], h.2⟩
  clear hp
  go_enter Tryz.func69, Tryz.ntmps69
  go_wp2_with (go_at_call 45; refine (HP.out _).mono ?_; rintro e w' ⟨rfl, rfl⟩)
  go_ret
  exact ⟨rfl, rfl⟩
set_option maxHeartbeats 400000 in
theorem without_own {w : World} {t : Nat} {key pre : ByteArray} {Post : Ending → World → Prop} (hpc : w.cell? ⟨t, 0, none⟩ = some (.string pre)) (hk : key.size ≤ 9223372036854775807) (hps : pre.size ≤ 64) (hp : Lib.hasPrefix key.data.toList pre.data.toList = true) (he : key.size = pre.size)
    (h : Calls Tryz.prog 83 #[.pointer (some ⟨t, 0, none⟩)] w fun e w' => ∃ tp, e = .returned (.pointer tp) ∧ Post e w') :
    Calls Tryz.prog 69 #[.pointer (some ⟨t, 0, none⟩), .string key] w Post := by
  have HP : Hid (∀ w1, Calls Tryz.prog 45 #[.string key, .string pre] w1 fun e w' => e = .returned (.bool true) ∧ w' = w1) := fun w1 => (hasPrefix_any key pre w1 hk (by unfold maxLen; omega)).mono fun e w' h => ⟨by rw [h.1, hp], h.2⟩
  have H : Hid (Calls Tryz.prog 83 #[.pointer (some ⟨t, 0, none⟩)] w fun e w' => ∃ tp, e = .returned (.pointer tp) ∧ Post e w') := h
  have heI : (key.size : Int) = (pre.size : Int) := by omega
  clear hp h he
  go_enter Tryz.func69, Tryz.ntmps69
  go_wp2_with (first | (go_at_call 45; refine (HP.out _).mono ?_; rintro e w' ⟨rfl, rfl⟩) | (go_at_call 83; refine H.out.mono ?_; rintro e w' ⟨tp, rfl, hpost⟩))
  exact hpost
set_option maxHeartbeats 400000 in
theorem without_none {w : World} {t pos : Nat} {key pre : ByteArray} (hpc : w.cell? ⟨t, 0, none⟩ = some (.string pre)) (hk : key.size ≤ 9223372036854775807) (hps : pre.size ≤ 64) (hp : Lib.hasPrefix key.data.toList pre.data.toList = true) (he : ¬ key.size = pre.size)
    (hPl : ∀ w1, Below w.heap.size w w1 → Calls Tryz.prog 67 #[.pointer (some ⟨t, 0, none⟩), .string key] w1 fun e w' => e = .returned (.tuple #[.int .i64 pos, .bool false]) ∧ Below w.heap.size w w') :
    Calls Tryz.prog 69 #[.pointer (some ⟨t, 0, none⟩), .string key] w fun e w' => e = .returned (.pointer (some ⟨t, 0, none⟩)) ∧ Below w.heap.size w w' := by
  have HP : Hid (∀ w1, Calls Tryz.prog 45 #[.string key, .string pre] w1 fun e w' => e = .returned (.bool true) ∧ w' = w1) := fun w1 => (hasPrefix_any key pre w1 hk (by unfold maxLen; omega)).mono fun e w' h => ⟨by rw [h.1, hp], h.2⟩
  have HPl : Hid (∀ w1, Below w.heap.size w w1 → Calls Tryz.prog 67 #[.pointer (some ⟨t, 0, none⟩), .string key] w1 fun e w' => e = .returned (.tuple #[.int .i64 pos, .bool false]) ∧ Below w.heap.size w w') := hPl
  have heI : ¬ (key.size : Int) = (pre.size : Int) := by omega
  clear hp hPl he
  go_enter Tryz.func69, Tryz.ntmps69
  go_wp2_with (first | (go_at_call 45; refine (HP.out _).mono ?_; rintro e w' ⟨rfl, rfl⟩) | (go_at_call 67; refine (HPl.out _ (Below.refl _ _)).mono ?_; rintro e w2 ⟨rfl, hbel0⟩))
  go_ret
  exact ⟨rfl, hbel0⟩
set_option maxRecDepth 100000 in
set_option maxHeartbeats 400000 in
theorem without_same {w : World} {t pos k o cap c len : Nat} {key pre : ByteArray} {vp : Option Addr} (hpc : w.cell? ⟨t, 0, none⟩ = some (.string pre)) (hk : key.size ≤ 9223372036854775807) (hps : pre.size ≤ 64) (hvc : w.cell? ⟨t, 1, none⟩ = some (.pointer vp)) (hbc : w.cell? ⟨t, 2, none⟩ = some (.slice (some ⟨k, o, none⟩) len cap)) (hcc : w.cell? ⟨k, o + pos, none⟩ = some (.pointer (some ⟨c, 0, none⟩))) (hpos : pos < len) (hlc : len ≤ 256) (hp : Lib.hasPrefix key.data.toList pre.data.toList = true) (he : ¬ key.size = pre.size)
    (hPl : ∀ w1, Below w.heap.size w w1 → Calls Tryz.prog 67 #[.pointer (some ⟨t, 0, none⟩), .string key] w1 fun e w' => e = .returned (.tuple #[.int .i64 pos, .bool true]) ∧ Below w.heap.size w w') (hW : ∀ w1, Below w.heap.size w w1 → Calls Tryz.prog 69 #[.pointer (some ⟨c, 0, none⟩), .string key] w1 fun e w' => e = .returned (.pointer (some ⟨c, 0, none⟩)) ∧ Below w.heap.size w w') :
    Calls Tryz.prog 69 #[.pointer (some ⟨t, 0, none⟩), .string key] w fun e w' => e = .returned (.pointer (some ⟨t, 0, none⟩)) ∧ Below w.heap.size w w' := by
  have HP : Hid (∀ w1, Calls Tryz.prog 45 #[.string key, .string pre] w1 fun e w' => e = .returned (.bool true) ∧ w' = w1) := fun w1 => (hasPrefix_any key pre w1 hk (by unfold maxLen; omega)).mono fun e w' h => ⟨by rw [h.1, hp], h.2⟩
  have HPl : Hid (∀ w1, Below w.heap.size w w1 → Calls Tryz.prog 67 #[.pointer (some ⟨t, 0, none⟩), .string key] w1 fun e w' => e = .returned (.tuple #[.int .i64 pos, .bool true]) ∧ Below w.heap.size w w') := hPl
  have HW : Hid (∀ w1, Below w.heap.size w w1 → Calls Tryz.prog 69 #[.pointer (some ⟨c, 0, none⟩), .string key] w1 fun e w' => e = .returned (.pointer (some ⟨c, 0, none⟩)) ∧ Below w.heap.size w w') := hW
  have HC : Hid (w.cell? ⟨t, 0, none⟩ = some (.string pre) ∧ w.cell? ⟨t, 1, none⟩ = some (.pointer vp) ∧ w.cell? ⟨t, 2, none⟩ = some (.slice (some ⟨k, o, none⟩) len cap) ∧ w.cell? ⟨k, o + pos, none⟩ = some (.pointer (some ⟨c, 0, none⟩))) := ⟨hpc, hvc, hbc, hcc⟩
  have heI : ¬ (key.size : Int) = (pre.size : Int) := by omega
  have hp0 : (0 : Int) ≤ (pos : Int) := Int.natCast_nonneg _
  have hp1 : (pos : Int) < (len : Int) := by omega
  have heq := fun w => eql_same c w
  clear hp hPl he hW
  go_enter Tryz.func69, Tryz.ntmps69
  go_wp2_with (first | (go_at_call 45; refine (HP.out _).mono ?_; rintro e w' ⟨rfl, rfl⟩) | (go_at_call 67; refine (HPl.out _ (Below.refl _ _)).mono ?_; rintro e w2 ⟨rfl, hbel0⟩; have hb2 := cell_later hbel0 HC.out.2.2.1; have hc2 := cell_later hbel0 HC.out.2.2.2) | (go_at_call 69; refine (HW.out _ hbel0).mono ?_; rintro e w3 ⟨rfl, hbel1⟩))
  go_ret
  exact ⟨rfl, hbel1⟩
set_option maxRecDepth 100000 in
set_option maxHeartbeats 400000 in
theorem without_gone {w : World} {t pos k o cap c len : Nat} {key pre : ByteArray} {vp : Option Addr} {L1 : World → Prop} {L2 : World → Value → Prop} {Post : Ending → World → Prop} (hpc : w.cell? ⟨t, 0, none⟩ = some (.string pre)) (hk : key.size ≤ 9223372036854775807) (hps : pre.size ≤ 64) (hvc : w.cell? ⟨t, 1, none⟩ = some (.pointer vp)) (hbc : w.cell? ⟨t, 2, none⟩ = some (.slice (some ⟨k, o, none⟩) len cap)) (hcc : w.cell? ⟨k, o + pos, none⟩ = some (.pointer (some ⟨c, 0, none⟩))) (hpos : pos < len) (hlc : len ≤ 256) (hp : Lib.hasPrefix key.data.toList pre.data.toList = true) (he : ¬ key.size = pre.size)
    (hPl : ∀ w1, Below w.heap.size w w1 → Calls Tryz.prog 67 #[.pointer (some ⟨t, 0, none⟩), .string key] w1 fun e w' => e = .returned (.tuple #[.int .i64 pos, .bool true]) ∧ Below w.heap.size w w') (hW : ∀ w1, Below w.heap.size w w1 → Calls Tryz.prog 69 #[.pointer (some ⟨c, 0, none⟩), .string key] w1 fun e w' => (e = .returned (.pointer none) ∧ L1 w') ∧ Below w.heap.size w w')
    (hL1 : ∀ w1, L1 w1 → L1 w1.drew)
    (hRw : ∀ w1, L1 w1 → Below w.heap.size w w1 → Calls Tryz.prog 85 #[.slice (some ⟨k, o, none⟩) len cap, .int .i64 pos] w1 fun e w' => ∃ bv', e = .returned bv' ∧ L2 w' bv' ∧ Below w.heap.size w w') (hSt : ∀ w1 bv', L2 w1 bv' → Below w.heap.size w w1 → Calls Tryz.prog 84 #[.string pre, .pointer vp, bv'] w1 fun e w' => ∃ tp, e = .returned (.pointer tp) ∧ Below w.heap.size w w' ∧ Post e w') :
    Calls Tryz.prog 69 #[.pointer (some ⟨t, 0, none⟩), .string key] w Post := by
  have HP : Hid (∀ w1, Calls Tryz.prog 45 #[.string key, .string pre] w1 fun e w' => e = .returned (.bool true) ∧ w' = w1) := fun w1 => (hasPrefix_any key pre w1 hk (by unfold maxLen; omega)).mono fun e w' h => ⟨by rw [h.1, hp], h.2⟩
  have HPl : Hid (∀ w1, Below w.heap.size w w1 → Calls Tryz.prog 67 #[.pointer (some ⟨t, 0, none⟩), .string key] w1 fun e w' => e = .returned (.tuple #[.int .i64 pos, .bool true]) ∧ Below w.heap.size w w') := hPl
  have HW : Hid (∀ w1, Below w.heap.size w w1 → Calls Tryz.prog 69 #[.pointer (some ⟨c, 0, none⟩), .string key] w1 fun e w' => (e = .returned (.pointer none) ∧ L1 w') ∧ Below w.heap.size w w') := hW
  have HRw : Hid (∀ w1, L1 w1 → Below w.heap.size w w1 → Calls Tryz.prog 85 #[.slice (some ⟨k, o, none⟩) len cap, .int .i64 pos] w1 fun e w' => ∃ bv', e = .returned bv' ∧ L2 w' bv' ∧ Below w.heap.size w w') := hRw
  have HSt : Hid (∀ w1 bv', L2 w1 bv' → Below w.heap.size w w1 → Calls Tryz.prog 84 #[.string pre, .pointer vp, bv'] w1 fun e w' => ∃ tp, e = .returned (.pointer tp) ∧ Below w.heap.size w w' ∧ Post e w') := hSt
  have HC : Hid (w.cell? ⟨t, 0, none⟩ = some (.string pre) ∧ w.cell? ⟨t, 1, none⟩ = some (.pointer vp) ∧ w.cell? ⟨t, 2, none⟩ = some (.slice (some ⟨k, o, none⟩) len cap) ∧ w.cell? ⟨k, o + pos, none⟩ = some (.pointer (some ⟨c, 0, none⟩))) := ⟨hpc, hvc, hbc, hcc⟩
  have HL1 : Hid (∀ w1, L1 w1 → L1 w1.drew) := hL1
  have heI : ¬ (key.size : Int) = (pre.size : Int) := by omega
  have hp0 : (0 : Int) ≤ (pos : Int) := Int.natCast_nonneg _
  have hp1 : (pos : Int) < (len : Int) := by omega
  have heq := fun w => eql_nil c w
  clear hp hPl he hW hRw hSt hL1
  go_enter Tryz.func69, Tryz.ntmps69
  go_wp2_with (first | (go_at_call 45; refine (HP.out _).mono ?_; rintro e w' ⟨rfl, rfl⟩) | (go_at_call 67; refine (HPl.out _ (Below.refl _ _)).mono ?_; rintro e w2 ⟨rfl, hbel0⟩; have hb2 := cell_later hbel0 HC.out.2.2.1; have hc2 := cell_later hbel0 HC.out.2.2.2) | (go_at_call 69; refine (HW.out _ hbel0).mono ?_; rintro e w3 ⟨⟨rfl, hl1⟩, hbel1⟩; have hp3 := cell_later hbel1 HC.out.1; have hv3 := cell_later hbel1 HC.out.2.1; have hb3 := cell_later hbel1 HC.out.2.2.1))
  go_region_held3 (fun w' => w'.cell? ⟨t, 0, none⟩ = some (.string pre) ∧ w'.cell? ⟨t, 1, none⟩ = some (.pointer vp) ∧ w'.cell? ⟨t, 2, none⟩ = some (.slice (some ⟨k, o, none⟩) len cap))
    (first | exact ⟨cell_later hbel3 HC.out.1, cell_later hbel3 HC.out.2.1, cell_later hbel3 HC.out.2.2.1⟩ | exact ⟨cell_later hbel2 HC.out.1, cell_later hbel2 HC.out.2.1, cell_later hbel2 HC.out.2.2.1⟩ | go_keep)
    (first
      | (go_at_call 85; refine (HRw.out _ (HL1.out _ hl1) hbel1.drew).mono ?_; rintro e w4 ⟨bv', rfl, hl2, hbel2⟩)
      | (go_at_call 84; refine (HSt.out _ _ hl2 hbel2).mono ?_; rintro e w5 ⟨tp, rfl, hbel3, hpost⟩))
  go_wp2
  exact hpost
set_option maxRecDepth 100000 in
set_option maxHeartbeats 400000 in
theorem without_less {w : World} {t pos k o cap c len : Nat} {key pre : ByteArray} {vp : Option Addr} {L1 : World → Nat → Prop} {L2 : World → Value → Prop} {Post : Ending → World → Prop} (hpc : w.cell? ⟨t, 0, none⟩ = some (.string pre)) (hk : key.size ≤ 9223372036854775807) (hps : pre.size ≤ 64) (hvc : w.cell? ⟨t, 1, none⟩ = some (.pointer vp)) (hbc : w.cell? ⟨t, 2, none⟩ = some (.slice (some ⟨k, o, none⟩) len cap)) (hcc : w.cell? ⟨k, o + pos, none⟩ = some (.pointer (some ⟨c, 0, none⟩))) (hpos : pos < len) (hlc : len ≤ 256) (hp : Lib.hasPrefix key.data.toList pre.data.toList = true) (he : ¬ key.size = pre.size)
    (hPl : ∀ w1, Below w.heap.size w w1 → Calls Tryz.prog 67 #[.pointer (some ⟨t, 0, none⟩), .string key] w1 fun e w' => e = .returned (.tuple #[.int .i64 pos, .bool true]) ∧ Below w.heap.size w w') (hW : ∀ w1, Below w.heap.size w w1 → Calls Tryz.prog 69 #[.pointer (some ⟨c, 0, none⟩), .string key] w1 fun e w' => (∃ t2, e = .returned (.pointer (some ⟨t2, 0, none⟩)) ∧ L1 w' t2) ∧ Below w.heap.size w w')
    (hL1 : ∀ w1 t2, L1 w1 t2 → L1 w1.drew t2) (hBk : ∀ w1 t2, L1 w1 t2 → Below w.heap.size w w1 → (¬ t2 = c) ∧ (∃ cells, w1.heap[c]? = some (.cells cells 71 (0, 0))) ∧ ∃ cells, w1.heap[t2]? = some (.cells cells 71 (0, 0)))
    (hRw : ∀ w1 t2, L1 w1 t2 → Below w.heap.size w w1 → Calls Tryz.prog 79 #[.slice (some ⟨k, o, none⟩) len cap, .int .i64 pos, .pointer (some ⟨t2, 0, none⟩)] w1 fun e w' => ∃ bv', e = .returned bv' ∧ L2 w' bv' ∧ Below w.heap.size w w') (hSt : ∀ w1 bv', L2 w1 bv' → Below w.heap.size w w1 → Calls Tryz.prog 84 #[.string pre, .pointer vp, bv'] w1 fun e w' => ∃ tp, e = .returned (.pointer tp) ∧ Below w.heap.size w w' ∧ Post e w') :
    Calls Tryz.prog 69 #[.pointer (some ⟨t, 0, none⟩), .string key] w Post := by
  have HP : Hid (∀ w1, Calls Tryz.prog 45 #[.string key, .string pre] w1 fun e w' => e = .returned (.bool true) ∧ w' = w1) := fun w1 => (hasPrefix_any key pre w1 hk (by unfold maxLen; omega)).mono fun e w' h => ⟨by rw [h.1, hp], h.2⟩
  have HPl : Hid (∀ w1, Below w.heap.size w w1 → Calls Tryz.prog 67 #[.pointer (some ⟨t, 0, none⟩), .string key] w1 fun e w' => e = .returned (.tuple #[.int .i64 pos, .bool true]) ∧ Below w.heap.size w w') := hPl
  have HW : Hid (∀ w1, Below w.heap.size w w1 → Calls Tryz.prog 69 #[.pointer (some ⟨c, 0, none⟩), .string key] w1 fun e w' => (∃ t2, e = .returned (.pointer (some ⟨t2, 0, none⟩)) ∧ L1 w' t2) ∧ Below w.heap.size w w') := hW
  have HRw : Hid (∀ w1 t2, L1 w1 t2 → Below w.heap.size w w1 → Calls Tryz.prog 79 #[.slice (some ⟨k, o, none⟩) len cap, .int .i64 pos, .pointer (some ⟨t2, 0, none⟩)] w1 fun e w' => ∃ bv', e = .returned bv' ∧ L2 w' bv' ∧ Below w.heap.size w w') := hRw
  have HSt : Hid (∀ w1 bv', L2 w1 bv' → Below w.heap.size w w1 → Calls Tryz.prog 84 #[.string pre, .pointer vp, bv'] w1 fun e w' => ∃ tp, e = .returned (.pointer tp) ∧ Below w.heap.size w w' ∧ Post e w') := hSt
  have HC : Hid (w.cell? ⟨t, 0, none⟩ = some (.string pre) ∧ w.cell? ⟨t, 1, none⟩ = some (.pointer vp) ∧ w.cell? ⟨t, 2, none⟩ = some (.slice (some ⟨k, o, none⟩) len cap) ∧ w.cell? ⟨k, o + pos, none⟩ = some (.pointer (some ⟨c, 0, none⟩))) := ⟨hpc, hvc, hbc, hcc⟩
  have HL1 : Hid (∀ w1 t2, L1 w1 t2 → L1 w1.drew t2) := hL1
  have HBk : Hid (∀ w1 t2, L1 w1 t2 → Below w.heap.size w w1 → (¬ t2 = c) ∧ (∃ cells, w1.heap[c]? = some (.cells cells 71 (0, 0))) ∧ ∃ cells, w1.heap[t2]? = some (.cells cells 71 (0, 0))) := hBk
  clear hBk
  have heI : ¬ (key.size : Int) = (pre.size : Int) := by omega
  have hp0 : (0 : Int) ≤ (pos : Int) := Int.natCast_nonneg _
  have hp1 : (pos : Int) < (len : Int) := by omega
  clear hp hPl he hW hRw hSt hL1
  go_enter Tryz.func69, Tryz.ntmps69
  go_wp2_with (first | (go_at_call 45; refine (HP.out _).mono ?_; rintro e w' ⟨rfl, rfl⟩) | (go_at_call 67; refine (HPl.out _ (Below.refl _ _)).mono ?_; rintro e w2 ⟨rfl, hbel0⟩; have hb2 := cell_later hbel0 HC.out.2.2.1; have hc2 := cell_later hbel0 HC.out.2.2.2) | (go_at_call 69; refine (HW.out _ hbel0).mono ?_; rintro e w3 ⟨⟨t2, rfl, hl1⟩, hbel1⟩; have hp3 := cell_later hbel1 HC.out.1; have hv3 := cell_later hbel1 HC.out.2.1; have hb3 := cell_later hbel1 HC.out.2.2.1; have heq := eql_other (HBk.out _ _ hl1 hbel1).1 (HBk.out _ _ hl1 hbel1).2.2.choose_spec (HBk.out _ _ hl1 hbel1).2.1.choose_spec))
  go_region_held3 (fun w' => w'.cell? ⟨t, 0, none⟩ = some (.string pre) ∧ w'.cell? ⟨t, 1, none⟩ = some (.pointer vp) ∧ w'.cell? ⟨t, 2, none⟩ = some (.slice (some ⟨k, o, none⟩) len cap))
    (first | exact ⟨cell_later hbel3 HC.out.1, cell_later hbel3 HC.out.2.1, cell_later hbel3 HC.out.2.2.1⟩ | exact ⟨cell_later hbel2 HC.out.1, cell_later hbel2 HC.out.2.1, cell_later hbel2 HC.out.2.2.1⟩ | go_keep)
    (first
      | (go_at_call 79; refine (HRw.out _ _ (HL1.out _ _ hl1) hbel1.drew).mono ?_; rintro e w4 ⟨bv', rfl, hl2, hbel2⟩)
      | (go_at_call 84; refine (HSt.out _ _ hl2 hbel2).mono ?_; rintro e w5 ⟨tp, rfl, hbel3, hpost⟩))
  go_wp2
  exact hpost

end Go.Proofs.YtcgjppacnhmjlaaGreat
