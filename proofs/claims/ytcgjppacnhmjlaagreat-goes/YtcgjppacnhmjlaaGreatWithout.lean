/- Without, way by way. -/
import Derived.Test.YtcgjppacnhmjlaaGreatGet
import Derived.Test.YtcgjppacnhmjlaaGreatPureC
set_option linter.unusedVariables false
set_option linter.unusedSimpArgs false
namespace Go.Proofs.YtcgjppacnhmjlaaGreat
open Go.RowKit
attribute [local go_sem ↓] Go.wp_at_zero Go.wp_at_succ

theorem settled_none (p : ByteArray) (w : World) : Calls Tryz.prog 84 #[.string p, .pointer none, .slice none 0 0] w fun e w' => e = .returned (.pointer none) ∧ w' = w := by
  go_enter Tryz.func84, Tryz.ntmps84
  go_wp2
  go_ret
  exact ⟨rfl, rfl⟩
theorem settled_one (p : ByteArray) (k o cap c : Nat) (w : World) (h : w.cell? ⟨k, o, none⟩ = some (.pointer (some ⟨c, 0, none⟩))) : Calls Tryz.prog 84 #[.string p, .pointer none, .slice (some ⟨k, o, none⟩) 1 cap] w fun e w' => e = .returned (.pointer (some ⟨c, 0, none⟩)) ∧ w' = w := by
  go_enter Tryz.func84, Tryz.ntmps84
  go_wp2
  go_ret
  exact ⟨rfl, rfl⟩
theorem settled_own (p : ByteArray) (a : Addr) (bv : Value) (w : World) {Post : Ending → World → Prop} (h : Calls Tryz.prog 75 #[.string p, .pointer (some a), bv] w fun e w' => ∃ t', e = .returned (.pointer (some ⟨t', 0, none⟩)) ∧ Post e w') :
    Calls Tryz.prog 84 #[.string p, .pointer (some a), bv] w Post := by
  have H : Hid (Calls Tryz.prog 75 #[.string p, .pointer (some a), bv] w fun e w' => ∃ t', e = .returned (.pointer (some ⟨t', 0, none⟩)) ∧ Post e w') := h
  clear h
  go_enter Tryz.func84, Tryz.ntmps84
  go_wp2_with (go_at_call 75; refine H.out.mono ?_; rintro e w' ⟨t', rfl, hpost⟩)
  exact hpost
theorem settled_many (p : ByteArray) (ao : Option Addr) (len cap : Nat) (w : World) {Post : Ending → World → Prop} (h2 : 2 ≤ len) (h : Calls Tryz.prog 75 #[.string p, .pointer none, .slice ao len cap] w fun e w' => ∃ t', e = .returned (.pointer (some ⟨t', 0, none⟩)) ∧ Post e w') :
    Calls Tryz.prog 84 #[.string p, .pointer none, .slice ao len cap] w Post := by
  have H : Hid (Calls Tryz.prog 75 #[.string p, .pointer none, .slice ao len cap] w fun e w' => ∃ t', e = .returned (.pointer (some ⟨t', 0, none⟩)) ∧ Post e w') := h
  have n0 : ¬ (len : Int) = 0 := by omega
  have n1 : ¬ (len : Int) = 1 := by omega
  clear h
  go_enter Tryz.func84, Tryz.ntmps84
  go_wp2_with (go_at_call 75; refine H.out.mono ?_; rintro e w' ⟨t', rfl, hpost⟩)
  exact hpost

/-- settled answers the tree of what is left. -/
theorem settled_rep {S : Nat → Prop} {w : World} {n : Nat} {p : ByteArray} {vp : Option Addr} {bv : Value} {ov : Option Int} {cs : List Nat} {xs : List UInt8} {gs : List (List KV)} (hS : Open S w) (hp : p.size ≤ 64) (hO : OwnAt S w vp ov) (hR : RowAt S w bv cs) (hl : cs.length = gs.length)
    (hC : ∀ (i c : Nat) g, cs[i]? = some c → gs[i]? = some g → RepN S n w c g) (hG : Grps p.data.toList xs gs) (hm : (ownL p.data.toList ov ++ gs.flatten).length ≤ 1000000) :
    Calls Tryz.prog 84 #[.string p, .pointer vp, bv] w fun e w' => ∃ tp, e = .returned (.pointer tp) ∧ TreeN S (n + 1) w' tp (ownL p.data.toList ov ++ gs.flatten) ∧ Below w.heap.size w w' := by
  cases ov with
  | some v =>
    obtain ⟨vb, h1, rfl, h2⟩ := hO
    refine settled_own p _ bv w ((joined_rep (S := S) (n := n) hS hp (ownAt_some h1 h2) hR hl hC ⟨hG, rfl, fun h => by cases h⟩ hm).mono ?_)
    rintro e w' ⟨t', rfl, h3, h4⟩
    exact ⟨t', rfl, _, rfl, .inr ⟨t', rfl, h3⟩, h4⟩
  | none =>
    obtain rfl : vp = none := hO
    have hR0 := hR
    rcases hR with ⟨rfl, rfl⟩ | ⟨k, o, cap, h1, rfl, h3, h4, h5, h6⟩
    · refine (settled_none p w).mono ?_
      rintro e w' ⟨rfl, rfl⟩
      obtain rfl : gs = [] := List.length_eq_zero_iff.mp (by rw [← hl]; rfl)
      exact ⟨none, rfl, .inl ⟨rfl, rfl⟩, Below.refl _ _⟩
    · by_cases hone : cs.length = 1
      · obtain ⟨c, rfl⟩ := List.length_eq_one_iff.mp hone
        obtain ⟨g, rfl⟩ := List.length_eq_one_iff.mp (hl ▸ hone)
        refine (settled_one p k o cap c w (h5 0 c rfl)).mono ?_
        rintro e w' ⟨rfl, rfl⟩
        refine ⟨_, rfl, .inr ⟨c, rfl, ?_⟩, Below.refl _ _⟩
        have := (hC 0 c g rfl rfl).fuel (Nat.le_succ n)
        simpa [ownL] using this
      · have h2 : 2 ≤ cs.length := by have := List.length_pos_iff.mpr h6; omega
        refine settled_many p _ _ _ w h2 ((joined_rep (S := S) (n := n) hS hp (ov := none) rfl hR0 hl hC ⟨hG, rfl, fun _ => by omega⟩ hm).mono ?_)
        rintro e w' ⟨t', rfl, h7, h8⟩
        exact ⟨t', rfl, _, rfl, .inr ⟨t', rfl, h7⟩, h8⟩

set_option maxHeartbeats 400000 in
theorem withoutOwn_none {w : World} {t : Nat} (hvc : w.cell? ⟨t, 1, none⟩ = some (.pointer none)) : Calls Tryz.prog 83 #[.pointer (some ⟨t, 0, none⟩)] w fun e w' => e = .returned (.pointer (some ⟨t, 0, none⟩)) ∧ w' = w := by
  go_enter Tryz.func83, Tryz.ntmps83
  go_wp2
  go_ret
  exact ⟨rfl, rfl⟩
set_option maxRecDepth 100000 in
set_option maxHeartbeats 400000 in
theorem withoutOwn_some {w : World} {t : Nat} {a : Addr} {pre : ByteArray} {bv : Value} {Post : Ending → World → Prop} (hpc : w.cell? ⟨t, 0, none⟩ = some (.string pre)) (hvc : w.cell? ⟨t, 1, none⟩ = some (.pointer (some a))) (hbc : w.cell? ⟨t, 2, none⟩ = some bv)
    (h : ∀ m, Calls Tryz.prog 84 #[.string pre, .pointer none, bv] (w.drewN m) fun e w' => ∃ tp, e = .returned (.pointer tp) ∧ Below w.heap.size w w' ∧ Post e w') :
    Calls Tryz.prog 83 #[.pointer (some ⟨t, 0, none⟩)] w Post := by
  have H : Hid (∀ m, Calls Tryz.prog 84 #[.string pre, .pointer none, bv] (w.drewN m) fun e w' => ∃ tp, e = .returned (.pointer tp) ∧ Below w.heap.size w w' ∧ Post e w') := h
  have HC : Hid (w.cell? ⟨t, 0, none⟩ = some (.string pre) ∧ w.cell? ⟨t, 2, none⟩ = some bv) := ⟨hpc, hbc⟩
  clear h
  go_enter Tryz.func83, Tryz.ntmps83
  go_wp2
  go_region_held3 (fun w' => w'.cell? ⟨t, 0, none⟩ = some (.string pre) ∧ w'.cell? ⟨t, 2, none⟩ = some bv) (first | exact ⟨cell_later hbel HC.out.1, cell_later hbel HC.out.2⟩ | go_keep) ((go_at_call 84; refine (H.out 1).mono ?_; rintro e w' ⟨tp, rfl, hbel, hpost⟩))
  go_wp2
  exact hpost

end Go.Proofs.YtcgjppacnhmjlaaGreat
