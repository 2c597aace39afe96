/- The lists of branches that replaced and removed make. -/
import Derived.Test.YtcgjppacnhmjlaaGreatLeafD
set_option linter.unusedVariables false
set_option linter.unusedSimpArgs false
namespace Go.Proofs.YtcgjppacnhmjlaaGreat
open Go.RowKit
attribute [local go_sem ↓] Go.wp_at_zero Go.wp_at_succ

set_option maxRecDepth 100000 in
set_option maxHeartbeats 400000 in
theorem replaced_some (k o cap at' b : Nat) (cs : List Nat) (w : World) (hb : BrAt w k o cs) (hcap : cs.length ≤ cap) (hlen : cs.length ≤ 256) (hat : at' < cs.length) (hcap2 : cap ≤ maxLen) :
    Calls Tryz.prog 79 #[.slice (some ⟨k, o, none⟩) cs.length cap, .int .i64 at', .pointer (some ⟨b, 0, none⟩)] w fun e w' =>
      ∃ g c, e = .returned (.slice (some ⟨g, 0, none⟩) (cs.take at' ++ b :: cs.drop (at' + 1)).length c) ∧ NewRow w w' g c (cs.take at' ++ b :: cs.drop (at' + 1)) := by
  have HL : Hid ((cs.take at' ++ b :: cs.drop (at' + 1)).length = cs.length) := by show _ = _; simp; omega
  generalize hcs' : cs.take at' ++ b :: cs.drop (at' + 1) = cs' at HL ⊢
  have HC : Hid (cs.take at' ++ b :: cs.drop (at' + 1) = cs') := hcs'
  clear hcs'
  unfold maxLen at hcap2
  obtain ⟨i0, hi0, hz0, hz1, hz2⟩ := info_parts infoP
  have h1 : (0 : Int) ≤ (at' : Int) := Int.natCast_nonneg _
  have h2 : (at' : Int) ≤ (cs.length : Int) := by omega
  have h3 : (at' : Int) ≤ (cap : Int) := by omega
  have h5 : (at' : Int) + 1 ≤ (cs.length : Int) := by omega
  have hwr : IntKind.i64.wrap ((at' : Int) + 1) = (at' : Int) + 1 := by rw [IntKind.wrap_i64]; omega
  have h6 : (0 : Int) ≤ (at' : Int) + 1 := by omega
  have h4 : (cs.length : Int) ≤ (cap : Int) := by omega
  have HB : Hid (BrAt w k o cs) := hb
  clear hb
  go_enter Tryz.func79, Tryz.ntmps79
  go_wp2_with fail
  go_region_held3 (fun _ => True) (trivial) (first
    | (refine step_append_grows (by rfl) (.tmp 10) (.tmp 12) 69 ?_ 56 i0 (.pointer none) 1 8 Tryz.underlying69 hi0 hz0 hz1 hz2 rfl (by decide) (some ⟨k, o, none⟩) at' at' ((cs.take at').map ptr) (by rfl) (fun h => by cases h) (by simp; omega) (olds_of HB.out (((Below.refl _ _).alloc (Nat.le_refl _) _).drew) at')
        ⟨w.heap.size, 0, none⟩ 1 1 [ptr b] (by rfl) (by rfl) (World.news_of_block (cs := #[ptr b]) (t := 56) (fr := (0, 0)) (heap_alloc_new w _)) (by simp [Value.oneCell', ptr]) (by omega) (by unfold maxLen; omega) (by omega) ?_; rfl; intro v1 w1 hown1 hgrow1)
    | (refine step_append_tail (by rfl) (.tmp 13) (.tmp 17) 69 ?_ _ 56 i0 (.pointer none) 1 8 Tryz.underlying69 hi0 hz0 hz1 hz2 rfl (by decide) v1 (at' + 1) _ (by rfl) hown1 (if cap = at' + 1 then some ⟨k, o, none⟩ else some ⟨k, o + (at' + 1), none⟩) (cs.length - (at' + 1)) (cap - (at' + 1)) ((cs.drop (at' + 1)).map ptr) ?_ (by simp) (tail_src HB.out (below_built hgrow1) (at' + 1) hcap) (one_ptr _) (by unfold maxLen; omega) (by omega) hgrow1.size ?_; rfl; rfl; intro v2 w2 hown2 hgrow2))
  go_wp2
  all_goals
    go_ret
    obtain ⟨g, c, hv, hN⟩ := newRow_of (cs := cs') hown2 (size_built w _) (by rw [← HC.out]; simp) (by rw [HL.out]; omega) (by omega) (below_two hgrow1 hown1 (size_built w _) hgrow2)
    exact ⟨g, c, by show Ending.returned v2 = _; rw [hv], hN⟩

theorem below_made {w w0 w1 w2 : World} {e : TypeId} {size n : Nat} {v0 v1 : Value} {xs0 xs : List Value} {n0 : Nat} (hg0 : w.grownBy w0 none) (h0 : w0.ownsRow w.heap.size e size v0 n0 xs0) (hg1 : w0.drew.grownBy w1 v0.ownBlock) (ho : w1.ownsRow w.heap.size e size v1 n xs) (hg2 : w1.grownBy w2 v1.ownBlock) : Below w.heap.size w w1 ∧ Below w.heap.size w w2 := by
  have b0 : Below w.heap.size w w0 := Below.grown (Below.refl _ _) hg0 (Nat.le_refl _) (fun _ h => by cases h)
  have b1 : Below w.heap.size w w1 := Below.grown b0.drew hg1 b0.size (fun _ h => ownBlock_ge h0 h)
  exact ⟨b1, Below.grown b1 hg2 b1.size (fun _ h => ownBlock_ge ho h)⟩
theorem below_made1 {w w0 w1 : World} {e : TypeId} {size : Nat} {v0 : Value} {xs0 : List Value} {n0 : Nat} (hg0 : w.grownBy w0 none) (h0 : w0.ownsRow w.heap.size e size v0 n0 xs0) (hg1 : w0.drew.grownBy w1 v0.ownBlock) : Below w.heap.size w w1 := by
  have b0 : Below w.heap.size w w0 := Below.grown (Below.refl _ _) hg0 (Nat.le_refl _) (fun _ h => by cases h)
  exact Below.grown b0.drew hg1 b0.size (fun _ h => ownBlock_ge h0 h)

theorem removed_one (v : Option Addr) (cap at' : Nat) (w : World) :
    Calls Tryz.prog 85 #[.slice v 1 cap, .int .i64 at'] w fun e w' => e = .returned (.slice none 0 0) ∧ w' = w := by
  go_enter Tryz.func85, Tryz.ntmps85
  go_wp2
  go_ret
  exact ⟨rfl, rfl⟩

set_option maxRecDepth 100000 in
set_option maxHeartbeats 400000 in
theorem removed_some (k o cap at' : Nat) (cs : List Nat) (w : World) (hb : BrAt w k o cs) (hcap : cs.length ≤ cap) (hlen : cs.length ≤ 256) (hat : at' < cs.length) (h2 : 2 ≤ cs.length) (hcap2 : cap ≤ maxLen) :
    Calls Tryz.prog 85 #[.slice (some ⟨k, o, none⟩) cs.length cap, .int .i64 at'] w fun e w' =>
      ∃ g c, e = .returned (.slice (some ⟨g, 0, none⟩) (cs.take at' ++ cs.drop (at' + 1)).length c) ∧ NewRow w w' g c (cs.take at' ++ cs.drop (at' + 1)) := by
  have HL : Hid ((cs.take at' ++ cs.drop (at' + 1)).length + 1 = cs.length) := by show _ = _; simp; omega
  generalize hcs' : cs.take at' ++ cs.drop (at' + 1) = cs' at HL ⊢
  have HC : Hid (cs.take at' ++ cs.drop (at' + 1) = cs') := hcs'
  clear hcs'
  unfold maxLen at hcap2
  obtain ⟨i0, hi0, hz0, hz1, hz2⟩ := info_parts infoP
  obtain ⟨w0, hmk, hown0, hgrow0⟩ := run_make_own (P := Tryz.prog) w w.heap.size 69 56 i0 (.pointer none) 1 Tryz.underlying69 hi0 hz0 hz1 .i64 .i64 (cs.length - 1) (by rw [hz2]; omega) (by unfold maxLen; omega) (Nat.le_refl _)
  have ec : ((cs.length - 1 : Nat) : Int) = (cs.length : Int) - 1 := by omega
  rw [ec] at hmk
  clear ec
  have hb0 : Below w.heap.size w w0 := Below.grown (Below.refl _ _) hgrow0 (Nat.le_refl _) (fun _ h => by cases h)
  have h1 : (0 : Int) ≤ (at' : Int) := Int.natCast_nonneg _
  have h2' : (at' : Int) ≤ (cs.length : Int) := by omega
  have h3 : (at' : Int) ≤ (cap : Int) := by omega
  have h5 : (at' : Int) + 1 ≤ (cs.length : Int) := by omega
  have hwr : IntKind.i64.wrap ((at' : Int) + 1) = (at' : Int) + 1 := by rw [IntKind.wrap_i64]; omega
  have h6 : (0 : Int) ≤ (at' : Int) + 1 := by omega
  have h4 : (cs.length : Int) ≤ (cap : Int) := by omega
  have hne : ¬ (cs.length : Int) = 1 := by omega
  have HB : Hid (BrAt w k o cs) := hb
  have HO : Hid (w0.ownsRow w.heap.size 56 1 (.slice (some ⟨w.heap.size, 0, none⟩) 0 (cs.length - 1)) 0 []) := hown0
  have HG : Hid (w.grownBy w0 none) := hgrow0
  have HB0 : Hid (Below w.heap.size w w0) := hb0
  clear hb hown0 hgrow0 hb0
  go_enter Tryz.func85, Tryz.ntmps85
  go_wp2
  go_region_held3 (fun _ => True) (trivial) (first
    | (refine step_append_tail (by rfl) (.tmp 13) (.tmp 16) 69 ?_ w.heap.size 56 i0 (.pointer none) 1 8 Tryz.underlying69 hi0 hz0 hz1 hz2 rfl (by decide) (.slice (some ⟨w.heap.size, 0, none⟩) 0 (cs.length - 1)) 0 _ ?_ HO.out.drew (some ⟨k, o, none⟩) at' cap ((cs.take at').map ptr) ?_ (by simp; omega) ⟨_, rfl, olds_of HB.out HB0.out.drew at' _ rfl⟩ (one_ptr _) (by unfold maxLen; omega) (by omega) HB0.out.size ?_; rfl; rfl; rfl; intro v1 w1 hown1 hgrow1)
    | (refine step_append_tail (by rfl) (.tmp 17) (.tmp 21) 69 ?_ w.heap.size 56 i0 (.pointer none) 1 8 Tryz.underlying69 hi0 hz0 hz1 hz2 rfl (by decide) v1 (0 + at') _ ?_ hown1 (if cap = at' + 1 then some ⟨k, o, none⟩ else some ⟨k, o + (at' + 1), none⟩) (cs.length - (at' + 1)) (cap - (at' + 1)) ((cs.drop (at' + 1)).map ptr) ?_ (by simp) (tail_src HB.out (below_made1 HG.out HO.out hgrow1) (at' + 1) hcap) (one_ptr _) (by unfold maxLen; omega) (by omega) (below_made1 HG.out HO.out hgrow1).size ?_; rfl; rfl; rfl; intro v2 w2 hown2 hgrow2))
  go_wp2
  all_goals
    go_ret
    obtain ⟨g, c, hv, hN⟩ := newRow_of (cs := cs') hown2 (Nat.le_refl _) (by rw [← HC.out]; simp) (by have := HL.out; omega) (by omega) (below_made HG.out HO.out hgrow1 hown1 hgrow2).2
    exact ⟨g, c, by show Ending.returned v2 = _; rw [hv], hN⟩

end Go.Proofs.YtcgjppacnhmjlaaGreat
