/- with, where the key goes beside or into a branch. -/
import Derived.Test.YtcgjppacnhmjlaaGreatWithB
import Derived.Deep.RegionWith
set_option linter.unusedVariables false
set_option linter.unusedSimpArgs false
namespace Go.Proofs.YtcgjppacnhmjlaaGreat
open Go.RowKit
attribute [local go_sem ↓] Go.wp_at_zero Go.wp_at_succ

set_option maxRecDepth 100000 in
set_option maxHeartbeats 400000 in
theorem with_new {w : World} {t vb pos : Nat} {key pre : ByteArray} {vp : Option Addr} {bv : Value} {L1 : World → Nat → Prop} {L2 : World → Nat → Value → Prop} {Post : Ending → World → Prop} (hpc : w.cell? ⟨t, 0, none⟩ = some (.string pre)) (hvc : w.cell? ⟨t, 1, none⟩ = some (.pointer vp)) (hbc : w.cell? ⟨t, 2, none⟩ = some bv) (hk : key.size ≤ 64) (hps : pre.size ≤ 64) (hlt : lcpLen key.data.toList pre.data.toList = pre.size) (hkp : pre.size < key.size)
    (hP : ∀ w1, Below w.heap.size w w1 → Calls Tryz.prog 67 #[.pointer (some ⟨t, 0, none⟩), .string key] w1 fun e w' => e = .returned (.tuple #[.int .i64 pos, .bool false]) ∧ Below w.heap.size w w')
    (hL : ∀ w1, Below w.heap.size w w1 → Calls Tryz.prog 75 #[.string key, .pointer (some ⟨vb, 0, none⟩), .slice none 0 0] w1 fun e w' => ∃ t1, e = .returned (.pointer (some ⟨t1, 0, none⟩)) ∧ L1 w' t1 ∧ Below w.heap.size w w')
    (hI : ∀ w1 t1, L1 w1 t1 → Below w.heap.size w w1 → Calls Tryz.prog 78 #[bv, .int .i64 pos, .pointer (some ⟨t1, 0, none⟩)] w1 fun e w' => ∃ bv', e = .returned bv' ∧ L2 w' t1 bv' ∧ Below w.heap.size w w')
    (hJ : ∀ w1 t1 bv', L2 w1 t1 bv' → Below w.heap.size w w1 → Calls Tryz.prog 75 #[.string pre, .pointer vp, bv'] w1 fun e w' => ∃ t', e = .returned (.pointer (some ⟨t', 0, none⟩)) ∧ Below w.heap.size w w' ∧ Post e w') :
    Calls Tryz.prog 66 #[.pointer (some ⟨t, 0, none⟩), .string key, .pointer (some ⟨vb, 0, none⟩)] w Post := by
  have hsl := fun w1 => sharedLength_any key pre w1 (by unfold maxLen; omega) (by unfold maxLen; omega)
  rw [hlt] at hsl
  have HS : Hid (∀ w1, Calls Tryz.prog 76 #[.string key, .string pre] w1 fun e w' => e = .returned (.int .i64 pre.size) ∧ ∃ n, w' = w1.drewN n) := hsl
  have HP : Hid (∀ w1, Below w.heap.size w w1 → Calls Tryz.prog 67 #[.pointer (some ⟨t, 0, none⟩), .string key] w1 fun e w' => e = .returned (.tuple #[.int .i64 pos, .bool false]) ∧ Below w.heap.size w w') := hP
  have HL : Hid (∀ w1, Below w.heap.size w w1 → Calls Tryz.prog 75 #[.string key, .pointer (some ⟨vb, 0, none⟩), .slice none 0 0] w1 fun e w' => ∃ t1, e = .returned (.pointer (some ⟨t1, 0, none⟩)) ∧ L1 w' t1 ∧ Below w.heap.size w w') := hL
  have HI : Hid (∀ w1 t1, L1 w1 t1 → Below w.heap.size w w1 → Calls Tryz.prog 78 #[bv, .int .i64 pos, .pointer (some ⟨t1, 0, none⟩)] w1 fun e w' => ∃ bv', e = .returned bv' ∧ L2 w' t1 bv' ∧ Below w.heap.size w w') := hI
  have HJ : Hid (∀ w1 t1 bv', L2 w1 t1 bv' → Below w.heap.size w w1 → Calls Tryz.prog 75 #[.string pre, .pointer vp, bv'] w1 fun e w' => ∃ t', e = .returned (.pointer (some ⟨t', 0, none⟩)) ∧ Below w.heap.size w w' ∧ Post e w') := hJ
  have hnl : ¬ (pre.size : Int) < (pre.size : Int) := by omega
  have hne : ¬ (pre.size : Int) = (key.size : Int) := by omega
  have HC : Hid (w.cell? ⟨t, 0, none⟩ = some (.string pre) ∧ w.cell? ⟨t, 1, none⟩ = some (.pointer vp) ∧ w.cell? ⟨t, 2, none⟩ = some bv) := ⟨hpc, hvc, hbc⟩
  clear hsl hP hL hI hJ hlt
  go_enter Tryz.func66, Tryz.ntmps66
  go_wp2_with (first | (go_at_call 76; refine (HS.out _).mono ?_; rintro e w' ⟨rfl, m, rfl⟩) | (go_at_call 67; refine (HP.out _ (below_drewN'' (Below.refl _ _) _)).mono ?_; rintro e w2 ⟨rfl, hbel0⟩))
  have hpc2 := cell_later hbel0 HC.out.1
  have hvc2 := cell_later hbel0 HC.out.2.1
  have hbc2 := cell_later hbel0 HC.out.2.2
  go_region_held3 (fun w' => w'.cell? ⟨t, 0, none⟩ = some (.string pre) ∧ w'.cell? ⟨t, 1, none⟩ = some (.pointer vp) ∧ w'.cell? ⟨t, 2, none⟩ = some bv)
    (first | exact ⟨cell_later hbel3 HC.out.1, cell_later hbel3 HC.out.2.1, cell_later hbel3 HC.out.2.2⟩ | exact ⟨cell_later hbel2 HC.out.1, cell_later hbel2 HC.out.2.1, cell_later hbel2 HC.out.2.2⟩ | exact ⟨cell_later hbel1 HC.out.1, cell_later hbel1 HC.out.2.1, cell_later hbel1 HC.out.2.2⟩ | go_keep)
    (first
      | (go_at_call_of 75 (Value.string key); refine (HL.out _ hbel0.drew).mono ?_; rintro e w3 ⟨t1, rfl, hl1, hbel1⟩)
      | (go_at_call 78; refine (HI.out _ _ hl1 hbel1).mono ?_; rintro e w4 ⟨bv', rfl, hl2, hbel2⟩)
      | (go_at_call_of 75 (Value.string pre); refine (HJ.out _ _ _ hl2 hbel2).mono ?_; rintro e w5 ⟨t', rfl, hbel3, hpost⟩))
  go_wp2
  exact hpost

set_option maxRecDepth 100000 in
set_option maxHeartbeats 400000 in
theorem with_found {w : World} {t vb pos k o cap c len : Nat} {key pre : ByteArray} {vp : Option Addr} {L1 : World → Nat → Prop} {L2 : World → Nat → Value → Prop} {Post : Ending → World → Prop} (hpc : w.cell? ⟨t, 0, none⟩ = some (.string pre)) (hvc : w.cell? ⟨t, 1, none⟩ = some (.pointer vp)) (hbc : w.cell? ⟨t, 2, none⟩ = some (.slice (some ⟨k, o, none⟩) len cap)) (hcc : w.cell? ⟨k, o + pos, none⟩ = some (.pointer (some ⟨c, 0, none⟩))) (hpos : pos < len) (hlc : len ≤ 256) (hk : key.size ≤ 64) (hps : pre.size ≤ 64) (hlt : lcpLen key.data.toList pre.data.toList = pre.size) (hkp : pre.size < key.size)
    (hP : ∀ w1, Below w.heap.size w w1 → Calls Tryz.prog 67 #[.pointer (some ⟨t, 0, none⟩), .string key] w1 fun e w' => e = .returned (.tuple #[.int .i64 pos, .bool true]) ∧ Below w.heap.size w w')
    (hL : ∀ w1, Below w.heap.size w w1 → Calls Tryz.prog 66 #[.pointer (some ⟨c, 0, none⟩), .string key, .pointer (some ⟨vb, 0, none⟩)] w1 fun e w' => ∃ t1, e = .returned (.pointer (some ⟨t1, 0, none⟩)) ∧ L1 w' t1 ∧ Below w.heap.size w w')
    (hI : ∀ w1 t1, L1 w1 t1 → Below w.heap.size w w1 → Calls Tryz.prog 79 #[.slice (some ⟨k, o, none⟩) len cap, .int .i64 pos, .pointer (some ⟨t1, 0, none⟩)] w1 fun e w' => ∃ bv', e = .returned bv' ∧ L2 w' t1 bv' ∧ Below w.heap.size w w')
    (hJ : ∀ w1 t1 bv', L2 w1 t1 bv' → Below w.heap.size w w1 → Calls Tryz.prog 75 #[.string pre, .pointer vp, bv'] w1 fun e w' => ∃ t', e = .returned (.pointer (some ⟨t', 0, none⟩)) ∧ Below w.heap.size w w' ∧ Post e w') :
    Calls Tryz.prog 66 #[.pointer (some ⟨t, 0, none⟩), .string key, .pointer (some ⟨vb, 0, none⟩)] w Post := by
  have hsl := fun w1 => sharedLength_any key pre w1 (by unfold maxLen; omega) (by unfold maxLen; omega)
  rw [hlt] at hsl
  have HS : Hid (∀ w1, Calls Tryz.prog 76 #[.string key, .string pre] w1 fun e w' => e = .returned (.int .i64 pre.size) ∧ ∃ n, w' = w1.drewN n) := hsl
  have HP : Hid (∀ w1, Below w.heap.size w w1 → Calls Tryz.prog 67 #[.pointer (some ⟨t, 0, none⟩), .string key] w1 fun e w' => e = .returned (.tuple #[.int .i64 pos, .bool true]) ∧ Below w.heap.size w w') := hP
  have HL : Hid (∀ w1, Below w.heap.size w w1 → Calls Tryz.prog 66 #[.pointer (some ⟨c, 0, none⟩), .string key, .pointer (some ⟨vb, 0, none⟩)] w1 fun e w' => ∃ t1, e = .returned (.pointer (some ⟨t1, 0, none⟩)) ∧ L1 w' t1 ∧ Below w.heap.size w w') := hL
  have HI : Hid (∀ w1 t1, L1 w1 t1 → Below w.heap.size w w1 → Calls Tryz.prog 79 #[.slice (some ⟨k, o, none⟩) len cap, .int .i64 pos, .pointer (some ⟨t1, 0, none⟩)] w1 fun e w' => ∃ bv', e = .returned bv' ∧ L2 w' t1 bv' ∧ Below w.heap.size w w') := hI
  have HJ : Hid (∀ w1 t1 bv', L2 w1 t1 bv' → Below w.heap.size w w1 → Calls Tryz.prog 75 #[.string pre, .pointer vp, bv'] w1 fun e w' => ∃ t', e = .returned (.pointer (some ⟨t', 0, none⟩)) ∧ Below w.heap.size w w' ∧ Post e w') := hJ
  have hnl : ¬ (pre.size : Int) < (pre.size : Int) := by omega
  have hp0 : (0 : Int) ≤ (pos : Int) := Int.natCast_nonneg _
  have hp1 : (pos : Int) < (len : Int) := by omega
  have hne : ¬ (pre.size : Int) = (key.size : Int) := by omega
  have HC : Hid (w.cell? ⟨t, 0, none⟩ = some (.string pre) ∧ w.cell? ⟨t, 1, none⟩ = some (.pointer vp) ∧ w.cell? ⟨t, 2, none⟩ = some (.slice (some ⟨k, o, none⟩) len cap) ∧ w.cell? ⟨k, o + pos, none⟩ = some (.pointer (some ⟨c, 0, none⟩))) := ⟨hpc, hvc, hbc, hcc⟩
  clear hsl hP hL hI hJ hlt
  go_enter Tryz.func66, Tryz.ntmps66
  go_wp2_with (first | (go_at_call 76; refine (HS.out _).mono ?_; rintro e w' ⟨rfl, m, rfl⟩) | (go_at_call 67; refine (HP.out _ (below_drewN'' (Below.refl _ _) _)).mono ?_; rintro e w2 ⟨rfl, hbel0⟩))
  have hpc2 := cell_later hbel0 HC.out.1
  have hvc2 := cell_later hbel0 HC.out.2.1
  have hbc2 := cell_later hbel0 HC.out.2.2.1
  have hcc2 := cell_later hbel0 HC.out.2.2.2
  go_region_held3 (fun w' => w'.cell? ⟨t, 0, none⟩ = some (.string pre) ∧ w'.cell? ⟨t, 1, none⟩ = some (.pointer vp) ∧ w'.cell? ⟨t, 2, none⟩ = some (.slice (some ⟨k, o, none⟩) len cap) ∧ w'.cell? ⟨k, o + pos, none⟩ = some (.pointer (some ⟨c, 0, none⟩)))
    (first | exact ⟨cell_later hbel3 HC.out.1, cell_later hbel3 HC.out.2.1, cell_later hbel3 HC.out.2.2.1, cell_later hbel3 HC.out.2.2.2⟩ | exact ⟨cell_later hbel2 HC.out.1, cell_later hbel2 HC.out.2.1, cell_later hbel2 HC.out.2.2.1, cell_later hbel2 HC.out.2.2.2⟩ | exact ⟨cell_later hbel1 HC.out.1, cell_later hbel1 HC.out.2.1, cell_later hbel1 HC.out.2.2.1, cell_later hbel1 HC.out.2.2.2⟩ | go_keep)
    (first
      | (go_at_call 66; refine (HL.out _ hbel0.drew).mono ?_; rintro e w3 ⟨t1, rfl, hl1, hbel1⟩)
      | (go_at_call 79; refine (HI.out _ _ hl1 hbel1).mono ?_; rintro e w4 ⟨bv', rfl, hl2, hbel2⟩)
      | (go_at_call_of 75 (Value.string pre); refine (HJ.out _ _ _ hl2 hbel2).mono ?_; rintro e w5 ⟨t', rfl, hbel3, hpost⟩))
  go_wp2
  exact hpost

end Go.Proofs.YtcgjppacnhmjlaaGreat
