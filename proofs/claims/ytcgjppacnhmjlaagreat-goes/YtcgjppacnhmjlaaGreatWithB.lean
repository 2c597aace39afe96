/- with, way by way. -/
import Derived.Test.YtcgjppacnhmjlaaGreatWith
set_option linter.unusedVariables false
set_option linter.unusedSimpArgs false
namespace Go.Proofs.YtcgjppacnhmjlaaGreat
open Go.RowKit
attribute [local go_sem ↓] Go.wp_at_zero Go.wp_at_succ

set_option maxHeartbeats 1000000 in
theorem place_nil (b : Nat) (pre key : ByteArray) (w : World) (hp : w.cell? ⟨b, 0, none⟩ = some (.string pre)) (hv : w.cell? ⟨b, 2, none⟩ = some (.slice none 0 0)) (hks : key.size ≤ 9223372036854775807) (hm : pre.size < key.size) :
    Calls Tryz.prog 67 #[.pointer (some ⟨b, 0, none⟩), .string key] w fun e w' =>
      e = .returned (.tuple #[.int .i64 0, .bool false]) ∧ Below w.heap.size w w' := by
  have hs : ∀ n, Calls Tryz.prog 80 #[.slice none 0 0, .int .u8 key[pre.size].toNat, .func (.func 81) #[] #[.pointer (some ⟨w.heap.size, 0, none⟩)]] ((w.alloc (.cells #[.int .i64 pre.size] 3)).drewN n) fun e w' =>
      e = .returned (.tuple #[.int .i64 0, .bool false]) ∧ w' = (w.alloc (.cells #[.int .i64 pre.size] 3)).drewN n := fun n => search_nil _ _ _
  have HS : Hid (∀ n, Calls Tryz.prog 80 #[.slice none 0 0, .int .u8 key[pre.size].toNat, .func (.func 81) #[] #[.pointer (some ⟨w.heap.size, 0, none⟩)]] ((w.alloc (.cells #[.int .i64 pre.size] 3)).drewN n) fun e w' =>
      e = .returned (.tuple #[.int .i64 0, .bool false]) ∧ w' = (w.alloc (.cells #[.int .i64 pre.size] 3)).drewN n) := hs
  clear hs
  have hv' : ∀ ob, (w.alloc ob).cell? ⟨b, 2, none⟩ = some (.slice none 0 0) := fun ob => cell_later ((Below.refl _ _).alloc (Nat.le_refl _) _) hv
  go_enter Tryz.func67, Tryz.ntmps67
  go_wp2
  go_quiet ((go_at_call 80; exact Calls.quiet_of_same (HS.out _)))
  go_wp2
  go_ret2
  exact ⟨rfl, below_drewN'' (((Below.refl _ _).alloc (Nat.le_refl _) _)) _⟩

theorem place_rep {S : Nat → Prop} {w : World} {b n : Nat} {pre key : ByteArray} {bv : Value} {cs : List Nat} {xs : List UInt8} (hp : w.cell? ⟨b, 0, none⟩ = some (.string pre)) (hv : w.cell? ⟨b, 2, none⟩ = some bv) (hR : RowAt S w bv cs) (hx : BytesAt w pre.size cs xs) (hpw : xs.Pairwise (· < ·)) (hks : key.size ≤ 9223372036854775807) (hm : pre.size < key.size) :
    Calls Tryz.prog 67 #[.pointer (some ⟨b, 0, none⟩), .string key] w fun e w' =>
      e = .returned (.tuple #[.int .i64 (posOf key[pre.size] xs), .bool (decide (xs[posOf key[pre.size] xs]? = some key[pre.size]))]) ∧ Below w.heap.size w w' := by
  rcases hR with ⟨h1, rfl⟩ | ⟨k, o, cap, h1, rfl, h3, h4, h5, h6⟩
  · have hx0 : xs = [] := List.length_eq_zero_iff.mp (by rw [← hx.1, h1]; rfl)
    subst hx0
    refine (place_nil b pre key w hp hv hks hm).mono ?_
    rintro e w' ⟨rfl, h⟩
    exact ⟨rfl, h⟩
  · exact place_some b pre key k o cap cs xs w hp hv h5 hx (by rw [hx.1]; exact pw_len hpw) hpw hks hm

theorem Answers.of_drewN {S : Nat → Prop} {n : Nat} {l : List KV} {w : World} {m : Nat} {e : Ending} {w' : World} (h : Answers S n l (w.drewN m) e w') : Answers S n l w e w' := by
  obtain ⟨t', h1, h2, h3⟩ := h
  exact ⟨t', h1, h2, (below_drewN'' (Below.refl w.heap.size w) m).trans h3⟩

set_option maxHeartbeats 400000 in
theorem with_fork {w : World} {t vb : Nat} {key pre : ByteArray} {Post : Ending → World → Prop} (hpc : w.cell? ⟨t, 0, none⟩ = some (.string pre)) (hk : key.size ≤ 64) (hps : pre.size ≤ 64) (hlt : lcpLen key.data.toList pre.data.toList < pre.size)
    (hF : ∀ m, Calls Tryz.prog 77 #[.pointer (some ⟨t, 0, none⟩), .string key, .pointer (some ⟨vb, 0, none⟩), .int .i64 (lcpLen key.data.toList pre.data.toList)] (w.drewN m) fun e w' => ∃ t', e = .returned (.pointer (some ⟨t', 0, none⟩)) ∧ Post e w') :
    Calls Tryz.prog 66 #[.pointer (some ⟨t, 0, none⟩), .string key, .pointer (some ⟨vb, 0, none⟩)] w Post := by
  have hsl := fun w1 => sharedLength_any key pre w1 (by unfold maxLen; omega) (by unfold maxLen; omega)
  generalize lcpLen key.data.toList pre.data.toList = q at *
  have HS : Hid (∀ w1, Calls Tryz.prog 76 #[.string key, .string pre] w1 fun e w' => e = .returned (.int .i64 q) ∧ ∃ n, w' = w1.drewN n) := hsl
  have HF : Hid (∀ m, Calls Tryz.prog 77 #[.pointer (some ⟨t, 0, none⟩), .string key, .pointer (some ⟨vb, 0, none⟩), .int .i64 q] (w.drewN m) fun e w' => ∃ t', e = .returned (.pointer (some ⟨t', 0, none⟩)) ∧ Post e w') := hF
  clear hsl hF
  go_enter Tryz.func66, Tryz.ntmps66
  go_wp2_with (first | (go_at_call 76; refine (HS.out _).mono ?_; rintro e w' ⟨rfl, m, rfl⟩) | (go_at_call 77; refine (HF.out _).mono ?_; rintro e w' ⟨t', rfl, hpost⟩))
  exact hpost


set_option maxRecDepth 100000 in
set_option maxHeartbeats 400000 in
theorem with_own {w : World} {t vb : Nat} {key pre : ByteArray} {bv : Value} {Post : Ending → World → Prop} (hpc : w.cell? ⟨t, 0, none⟩ = some (.string pre)) (hbc : w.cell? ⟨t, 2, none⟩ = some bv) (hk : key.size ≤ 64) (hps : pre.size ≤ 64) (hlt : lcpLen key.data.toList pre.data.toList = pre.size) (hkp : key.size = pre.size)
    (hF : ∀ m, Calls Tryz.prog 75 #[.string pre, .pointer (some ⟨vb, 0, none⟩), bv] (w.drewN m) fun e w' => ∃ t', e = .returned (.pointer (some ⟨t', 0, none⟩)) ∧ Below w.heap.size w w' ∧ Post e w') :
    Calls Tryz.prog 66 #[.pointer (some ⟨t, 0, none⟩), .string key, .pointer (some ⟨vb, 0, none⟩)] w Post := by
  have hsl := fun w1 => sharedLength_any key pre w1 (by unfold maxLen; omega) (by unfold maxLen; omega)
  rw [hlt, ← hkp] at hsl
  have HS : Hid (∀ w1, Calls Tryz.prog 76 #[.string key, .string pre] w1 fun e w' => e = .returned (.int .i64 key.size) ∧ ∃ n, w' = w1.drewN n) := hsl
  have HF : Hid (∀ m, Calls Tryz.prog 75 #[.string pre, .pointer (some ⟨vb, 0, none⟩), bv] (w.drewN m) fun e w' => ∃ t', e = .returned (.pointer (some ⟨t', 0, none⟩)) ∧ Below w.heap.size w w' ∧ Post e w') := hF
  have hnl : ¬ (key.size : Int) < (pre.size : Int) := by omega
  have HC : Hid (w.cell? ⟨t, 0, none⟩ = some (.string pre) ∧ w.cell? ⟨t, 2, none⟩ = some bv) := ⟨hpc, hbc⟩
  clear hsl hF hlt hkp
  go_enter Tryz.func66, Tryz.ntmps66
  go_wp2_with (first | (go_at_call 76; refine (HS.out _).mono ?_; rintro e w' ⟨rfl, m, rfl⟩))
  go_region_held3 (fun w' => w'.cell? ⟨t, 0, none⟩ = some (.string pre) ∧ w'.cell? ⟨t, 2, none⟩ = some bv) (first | exact ⟨cell_later hbel HC.out.1, cell_later hbel HC.out.2⟩ | go_keep) ((go_at_call 75; refine (HF.out _).mono ?_; rintro e w' ⟨t', rfl, hbel, hpost⟩))
  go_wp2
  exact hpost

end Go.Proofs.YtcgjppacnhmjlaaGreat
