/- shaped: the program's shape is the document's. -/
import Derived.Test.YtcgjppacnhmjlaaGreatTwinB
import Derived.Deep.RegionWith
import Derived.Deep.DeepCutAuto
set_option linter.unusedVariables false
set_option linter.unusedSimpArgs false
namespace Go.Proofs.YtcgjppacnhmjlaaGreat
open Go.RowKit
attribute [local go_sem ↓] Go.wp_at_zero Go.wp_at_succ

def Six (w : World) (b : Nat) (c : Nat → Nat) (g : Nat) : Prop := w.cell? ⟨b, 0, none⟩ = some (.int .i64 (c 0)) ∧ w.cell? ⟨b, 1, none⟩ = some (.int .i64 (c 1)) ∧ w.cell? ⟨b, 2, none⟩ = some (.int .i64 (c 2)) ∧ w.cell? ⟨b, 3, none⟩ = some (.int .i64 (c 3)) ∧ w.cell? ⟨b, 4, none⟩ = some (.int .i64 (c 4)) ∧ w.cell? ⟨b, 5, none⟩ = some (.int .i64 g)
def put6 (w : World) (b : Nat) (c : Nat → Nat) (g : Nat) : World := (((((w.setCell ⟨b, 0, none⟩ (.int .i64 (c 0))).setCell ⟨b, 1, none⟩ (.int .i64 (c 1))).setCell ⟨b, 2, none⟩ (.int .i64 (c 2))).setCell ⟨b, 3, none⟩ (.int .i64 (c 3))).setCell ⟨b, 4, none⟩ (.int .i64 (c 4))).setCell ⟨b, 5, none⟩ (.int .i64 g)
theorem put6_other {w : World} {b k : Nat} {c : Nat → Nat} {g : Nat} (h : k ≠ b) : (put6 w b c g).heap[k]? = w.heap[k]? := by
  unfold put6
  rw [Below.heap_setCell _ _ _ _ h, Below.heap_setCell _ _ _ _ h, Below.heap_setCell _ _ _ _ h, Below.heap_setCell _ _ _ _ h, Below.heap_setCell _ _ _ _ h, Below.heap_setCell _ _ _ _ h]
theorem put6_blk {w : World} {b : Nat} {c z : Nat → Nat} {g g0 : Nat} (h : w.heap[b]? = some (shp z g0)) : (put6 w b c g).heap[b]? = some (shp c g) := by
  unfold put6
  simp [World.setCell, Array.getElem?_modify, h, shp]
theorem put6_below {n : Nat} {w0 w : World} {b : Nat} {c : Nat → Nat} {g : Nat} (h : Below n w0 w) (hb : n ≤ b) : Below n w0 (put6 w b c g) := by
  unfold put6
  exact (((((h.setCell hb _).setCell hb _).setCell hb _).setCell hb _).setCell hb _).setCell hb _
theorem put6_cell {w : World} {b k o : Nat} {c : Nat → Nat} {g : Nat} {v : Value} (hk : k ≠ b) (h : w.cell? ⟨k, o, none⟩ = some v) : (put6 w b c g).cell? ⟨k, o, none⟩ = some v := by
  rw [← h]
  unfold World.cell?
  simp only [put6_other hk]

set_option maxRecDepth 100000 in
set_option maxHeartbeats 2000000 in
theorem tshaped_any {ρ : Nat → Nat} {i : Nat} {w : World} {x r : Nat} {l : List KV} (h : Twin ρ i w x r l) (hf : ∀ k, w.heap.size ≤ k → ρ k = 0) :
    Calls Tryz.prog 14 #[tw x r] w fun e w' => e = .returned (.bool true) ∧ Below w.heap.size w w' := by
  obtain ⟨c, g, hsh, _⟩ := indexShape_any h.ix
  obtain ⟨av, hR, hg⟩ := h.ref
  obtain ⟨ao, cap, rfl⟩ : ∃ ao cap, av = .slice ao l.length cap := by
    rcases hR.cases with ⟨rfl, rfl⟩ | ⟨g, cap, rfl, hp, hc⟩
    · exact ⟨_, _, rfl⟩
    · exact ⟨_, _, rfl⟩
  have HL : Hid (∀ w1, Below w.heap.size w w1 → Calls Tryz.prog 12 #[.pointer (some ⟨x, 0, none⟩)] w1 fun e w' => e = .returned (.int .i64 l.length) ∧ w' = w1) := fun w1 hb => indexLen_any (h.ix.on hb)
  have HS : Hid (∀ w1, Below w.heap.size w w1 → Calls Tryz.prog 18 #[.pointer (some ⟨x, 0, none⟩)] w1 fun e w' => e = .returned (shapeV c g) ∧ Below w1.heap.size w1 w') := fun w1 hb => by
    obtain ⟨c', g', hs', hc⟩ := indexShape_any (h.ix.on hb)
    obtain ⟨rfl, rfl⟩ := hsh.uniq hs'
    exact hc
  have HT : Hid (∀ w1, Below w.heap.size w w1 → Calls Tryz.prog 26 #[.pointer (some ⟨r, 0, none⟩), .int .i64 0, .int .i64 l.length, .int .i64 0] w1 fun e w' => e = .returned (shapeV c g) ∧ Below w1.heap.size w1 w') := fun w1 hb => rshape_top (hR.on hb) hsh
  have HC : Hid (∀ w1, Below w.heap.size w w1 → w1.cell? ⟨r, 0, none⟩ = some (.slice ao l.length cap)) := fun w1 hb => cell_later hb hR.cell
  have HRC : Hid (∀ w1, Below (w.alloc (twB x r)).heap.size (w.alloc (twB x r)) w1 → w1.cell? ⟨w.heap.size, 1, none⟩ = some (.pointer (some ⟨r, 0, none⟩))) := fun w1 hb => twin_cell h.ix.lt (But.of_below hb)
  have hfew := hR.few
  have hrw := idx_lt hR.blk
  have HB0 : Hid (∀ ob, Below w.heap.size w (w.alloc ob)) := fun ob => below_alloc w ob
  clear hR hg hsh h hf
  unfold tw
  go_enter Tryz.func14, Tryz.ntmps14
  go_wp2_with (first
    | (go_at_call 12; refine (HL.out _ (HB0.out _)).mono ?_; rintro e w1 ⟨rfl, rfl⟩)
    | (go_at_call 18; refine (HS.out _ (HB0.out _)).mono ?_; rintro e w2 ⟨rfl, hb2⟩; unfold shapeV))
  have hw2 : w.heap.size + 1 ≤ w2.heap.size := by have := hb2.size; simpa using this
  have hbw : ∀ ob, Below w.heap.size w (w2.alloc ob) := fun ob => ((HB0.out _).trans (hb2.mono (HB0.out _).size)).alloc (Nat.le_trans (HB0.out (twB x r)).size hb2.size) _
  have hbw2 : ∀ ob ob', Below w.heap.size w ((w2.alloc ob).alloc ob') := fun ob ob' => (hbw ob).alloc (hbw ob).size _
  have HBW : Hid (∀ ob, Below w.heap.size w (w2.alloc ob)) := hbw
  have HBW2 : Hid (∀ ob ob', Below w.heap.size w ((w2.alloc ob).alloc ob')) := hbw2
  have q1 : ∀ ob, (w2.alloc ob).cell? ⟨w.heap.size, 1, none⟩ = some (.pointer (some ⟨r, 0, none⟩)) := fun ob => HRC.out _ (hb2.alloc hb2.size _)
  have q2 : ∀ ob ob', ((w2.alloc ob).alloc ob').cell? ⟨w.heap.size, 1, none⟩ = some (.pointer (some ⟨r, 0, none⟩)) := fun ob ob' => HRC.out _ ((hb2.alloc hb2.size _).alloc (by have := hb2.size; simp at this ⊢; omega) _)
  have q3 := fun ob => HC.out _ (hbw ob)
  have q4 := fun ob ob' => HC.out _ (hbw2 ob ob')
  have HBT : Hid (∀ ob, Below (w.alloc (twB x r)).heap.size (w.alloc (twB x r)) (w2.alloc ob)) := fun ob => hb2.alloc hb2.size _
  have HBT2 : Hid (∀ ob ob', Below (w.alloc (twB x r)).heap.size (w.alloc (twB x r)) ((w2.alloc ob).alloc ob')) := fun ob ob' => (HBT.out ob).alloc (HBT.out ob).size _
  clear hbw hbw2
  go_cut [5] (fun s wx => ∃ b, s = .pointer (some ⟨b, 0, none⟩) ∧ Hid (Below w.heap.size w wx) ∧ wx.cell? ⟨w.heap.size, 1, none⟩ = some (.pointer (some ⟨r, 0, none⟩)) ∧ wx.cell? ⟨r, 0, none⟩ = some (.slice ao l.length cap) ∧ wx.heap[w2.heap.size]? = some (shp c g) ∧ wx.heap[b]? = some (shp c g))
  case first =>
    go_region_with (go_at_call 26; refine (HT.out _ (by first | exact (HBW.out _).drew | exact (HBW2.out _ _).drew)).mono ?_; rintro e w4 ⟨rfl, hb4⟩; unfold shapeV; try (have hz : w4.heap[w2.heap.size + 1]? = some (shp (fun _ => 0) 0) := (hb4.block (w2.heap.size + 1) (by simp)).trans (new_new w2 _ _); obtain ⟨z0, z1, z2, z3, z4, z5⟩ := shp_cell hz; have fz := shp_free hz))
    all_goals
      have HB4 : Hid (Below w.heap.size w w4) := by first | exact (HBW.out _).drew.trans (hb4.mono (HBW.out _).size) | exact (HBW2.out _ _).drew.trans (hb4.mono (HBW2.out _ _).size)
      have hr4 := HRC.out w4 (by first | exact (HBT.out _).drew.trans (hb4.mono (HBT.out _).size) | exact (HBT2.out _ _).drew.trans (hb4.mono (HBT2.out _ _).size))
      have hc4 := HC.out w4 HB4.out
      have hs4 : w4.heap[w2.heap.size]? = some (shp c g) := by first | exact (hb4.block _ (by simp)).trans (heap_alloc_new w2 _) | exact (hb4.block _ (by simp; omega)).trans (old_new w2 _ _)
      have hrl : r < w4.heap.size := World.block_lt_of_cell? _ _ hc4
      clear hb4 q1 q2 q3 q4
    all_goals (go_wp2_with fail; go_meet)
    all_goals first
      | (have hz' := hz
         have key : Hid (Below w.heap.size w (put6 w4 (w2.heap.size + 1) c g)) ∧ (put6 w4 (w2.heap.size + 1) c g).cell? ⟨w.heap.size, 1, none⟩ = some (.pointer (some ⟨r, 0, none⟩)) ∧ (put6 w4 (w2.heap.size + 1) c g).cell? ⟨r, 0, none⟩ = some (.slice ao l.length cap) ∧ (put6 w4 (w2.heap.size + 1) c g).heap[w2.heap.size]? = some (shp c g) ∧ (put6 w4 (w2.heap.size + 1) c g).heap[w2.heap.size + 1]? = some (shp c g) := ⟨put6_below HB4.out (by omega), put6_cell (by omega) hr4, put6_cell (by omega) hc4, (put6_other (by omega)).trans hs4, put6_blk hz⟩
         unfold put6 at key
         exact ⟨w2.heap.size + 1, rfl, key⟩)
      | exact ⟨w4.heap.size, rfl, HB4.out.alloc HB4.out.size _, cell_later (below_alloc w4 _) hr4, cell_later (below_alloc w4 _) hc4, ((below_alloc w4 _).block _ (idx_lt hs4)).trans hs4, heap_alloc_new w4 _⟩
  case rest =>
    obtain ⟨b, rfl, HB5, hr5, hc5, hs5, hb5⟩ := hcut
    obtain ⟨d0, d1, d2, d3, d4, d5⟩ := shp_cell hs5
    obtain ⟨e0, e1, e2, e3, e4, e5⟩ := shp_cell hb5
    clear hs5 hb5 q1 q2 q3 q4
    go_wp2
    go_ret
    exact ⟨rfl, HB5.out⟩

end Go.Proofs.YtcgjppacnhmjlaaGreat
