/- add: one index more. -/
import Derived.Test.YtcgjppacnhmjlaaGreatTwinD
set_option linter.unusedVariables false
set_option linter.unusedSimpArgs false
namespace Go.Proofs.YtcgjppacnhmjlaaGreat
open Go.RowKit

theorem infoTw : (Tryz.prog.info? 42).map (fun i => (i.zero, i.size, i.bytes)) = some (some (.agg #[.pointer none, .pointer none]), 2, 16) := by kernel_rfl

theorem add_end {ρ : Nat → Nat} {w w1 : World} {W : Nat} {most : Int} {ao : Option Addr} {len cap g cap' : Nat} {ts : TS} {x r : Nat} {l : List KV} {ob : Obj} (h : Wd ρ w W most (.slice ao len cap) ts) (ht : Twin ρ ts.length w x r l) (h8 : ts.length < 8)
    (hown : w1.ownsRow 0 42 2 (.slice (some ⟨g, 0, none⟩) (ts.length + 1) cap') (ts.length + 1) (flatT ts ++ [.pointer (some ⟨x, 0, none⟩), .pointer (some ⟨r, 0, none⟩)]))
    (hgrow : (w.alloc ob).grownBy w1 (Value.slice ao len cap).ownBlock) (hat : (Value.slice ao len cap).ownBlock = some g ∨ g = (w.alloc ob).heap.size) (hlt1 : g < w1.heap.size) :
    w1.cell? ⟨W, 0, none⟩ = some (.slice ao len cap) ∧ w1.frozen? ⟨W, 0, none⟩ = false ∧
    ∃ ρ', Moved NZ ρ w ρ' (w1.setCell ⟨W, 0, none⟩ (.slice (some ⟨g, 0, none⟩) (ts.length + 1) cap')) ∧ Wd ρ' (w1.setCell ⟨W, 0, none⟩ (.slice (some ⟨g, 0, none⟩) (ts.length + 1) cap')) W most (.slice (some ⟨g, 0, none⟩) (ts.length + 1) cap') (ts ++ [(x, r, l)]) := by
  have hWlt := idx_lt h.blk
  have hsz : (w.alloc ob).heap.size = w.heap.size + 1 := by simp
  have hWg : some W ≠ (Value.slice ao len cap).ownBlock := fun e => by have := h.pg W e.symm; rw [h.pW] at this; omega
  have b1 : w1.heap[W]? = some (.cells #[.slice ao len cap, .int .i64 most] 28 (0, 0)) := by
    rw [hgrow.block W (by omega) hWg]
    exact ((below_alloc w ob).block W hWlt).trans h.blk
  have hne : g ≠ W := by
    rcases hat with h1 | h1
    · exact fun e => hWg (by rw [← e]; exact h1.symm)
    · omega
  refine ⟨by simp [World.cell?, b1], by simp [World.frozen?, b1], fun k => if k = g then 101 else ρ k, ?_⟩
  have hblk : ∀ k, k < w.heap.size → ρ k ≠ 100 → ρ k ≠ 101 → (w1.setCell ⟨W, 0, none⟩ (.slice (some ⟨g, 0, none⟩) (ts.length + 1) cap')).heap[k]? = w.heap[k]? := fun k hk h1 h2 => by
    rw [Below.heap_setCell _ _ _ _ (fun e => h1 (by rw [e]; exact h.pW)), hgrow.block k (by omega) (fun e => h2 (h.pg k e.symm))]
    exact (below_alloc w ob).block k hk
  have hsz1 : w.heap.size ≤ (w1.setCell ⟨W, 0, none⟩ (.slice (some ⟨g, 0, none⟩) (ts.length + 1) cap')).heap.size := by
    have := hgrow.size; simp [World.setCell]; omega
  have hag : ∀ k, k < w.heap.size → (if k = g then 101 else ρ k) = ρ k := fun k hk => by
    split
    · rename_i e
      rcases hat with h1 | h1
      · rw [e]; exact (h.pg g h1).symm
      · omega
    · rfl
  have hfr : ∀ k, (w1.setCell ⟨W, 0, none⟩ (.slice (some ⟨g, 0, none⟩) (ts.length + 1) cap')).heap.size ≤ k → (if k = g then 101 else ρ k) = 0 := fun k hk => by
    have hs : (w1.setCell ⟨W, 0, none⟩ (.slice (some ⟨g, 0, none⟩) (ts.length + 1) cap')).heap.size = w1.heap.size := by simp [World.setCell]
    rw [if_neg (by omega)]
    exact h.fresh k (by omega)
  have hm : Moved (fun c => c = 100 ∨ c = 101) ρ w (fun k => if k = g then 101 else ρ k) (w1.setCell ⟨W, 0, none⟩ (.slice (some ⟨g, 0, none⟩) (ts.length + 1) cap')) :=
    ⟨hgrow.os, hgrow.tape, hgrow.output, hsz1, hag, hfr, fun k hk hn => hblk k hk (fun e => hn (.inl e)) (fun e => hn (.inr e)), fun k o hk ho => by
      rw [Below.heap_setCell _ _ _ _ (fun e => by subst e; rw [h.blk] at hk; cases hk; cases ho), hgrow.block k (by have := idx_lt hk; omega) (fun e => by rw [ownsRow_isC h.row k o e.symm hk] at ho; cases ho)]
      exact ((below_alloc w ob).block k (idx_lt hk)).trans hk⟩
  have hpart : ∀ i, i < 8 → ∀ c, Part i c → ¬ (c = 100 ∨ c = 101) := fun i hi c hc => by have := part_small hi hc; omega
  refine ⟨hm.mono fun c e => by unfold NZ; omega, ?_⟩
  refine ⟨?_, (hag W hWlt).trans h.pW, ?_, fun g' e => ?_, fun i t hi => ?_, hfr, by simp; omega⟩
  · simp only [World.setCell, Array.getElem?_modify, if_true, b1, Option.map_some]
    simp
  · rw [flatT_snoc, List.length_append]
    exact ownsRow_setCell_other hown (by simp [Value.ownBlock]; exact hne) _
  · simp [Value.ownBlock] at e
    exact if_pos e.symm
  · by_cases hi2 : i < ts.length
    · rw [List.getElem?_append_left hi2] at hi
      exact (h.tw i t hi).moved hm (by omega) (hpart i (by omega))
    · have : i = ts.length := by
        have := (List.getElem?_eq_some_iff.mp hi).1
        simp at this; omega
      subst this
      simp at hi
      subst hi
      exact ht.moved hm (by omega) (hpart _ h8)

set_option maxRecDepth 100000 in
set_option maxHeartbeats 400000 in
theorem add_any {ρ : Nat → Nat} {w : World} {W : Nat} {most : Int} {av : Value} {ts : TS} {x r : Nat} {l : List KV} (h : Wd ρ w W most av ts) (ht : Twin ρ ts.length w x r l) (h8 : ts.length < 8) :
    Calls Tryz.prog 9 #[.pointer (some ⟨W, 0, none⟩), .pointer (some ⟨x, 0, none⟩), .pointer (some ⟨r, 0, none⟩)] w fun e w' => e = .returned (.bool true) ∧ ∃ ρ' av', Moved NZ ρ w ρ' w' ∧ Wd ρ' w' W most av' (ts ++ [(x, r, l)]) := by
  obtain ⟨i0, hi0, hz0, hz1, hz2⟩ : ∃ i0, Tryz.prog.info? 42 = some i0 ∧ i0.zero = some (.agg #[.pointer none, .pointer none]) ∧ i0.size = 2 ∧ i0.bytes = 16 := by
    have := infoTw
    cases hi : Tryz.prog.info? 42 with
    | none => rw [hi] at this; cases this
    | some i0 =>
      rw [hi] at this
      simp at this
      exact ⟨i0, rfl, this.1, this.2.1, this.2.2⟩
  obtain ⟨ao, len, cap, rfl, hlen⟩ : ∃ ao len cap, av = .slice ao len cap ∧ len = ts.length := by
    obtain ⟨h0, h1 | ⟨g', cap', cur, h1, _⟩⟩ := h.row
    · exact ⟨_, _, _, h1.1, h1.2.symm⟩
    · exact ⟨_, _, _, h1, rfl⟩
  subst hlen
  have HW : Hid (Wd ρ w W most (.slice ao ts.length cap) ts) := h
  have HT : Hid (Twin ρ ts.length w x r l) := ht
  have HO : Hid (w.ownsRow 0 42 2 (.slice ao ts.length cap) ts.length (flatT ts)) := h.row
  have hc := h.cellL
  have hca := fun ob => cell_later (below_alloc w ob) hc
  have hW : W < w.heap.size := idx_lt h.blk
  clear h ht
  have hl8 : (ts.length : Int) < 8 := by omega
  go_enter Tryz.func9, Tryz.ntmps9
  go_wp2_with (
    (at_builtin; refine wpList_append_lies _ rfl _ _ _ rfl 0 42 i0 (.agg #[.pointer none, .pointer none]) 2 16 Tryz.underlying26 hi0 hz0 hz1 hz2 rfl (by omega) (.slice ao ts.length cap) ts.length _ rfl (World.ownsRow.alloc (w := w) HO.out _) ⟨w.heap.size, 0, none⟩ 1 1 [.pointer (some ⟨x, 0, none⟩), .pointer (some ⟨r, 0, none⟩)] rfl rfl (World.news_of_block (cs := #[.pointer (some ⟨x, 0, none⟩), .pointer (some ⟨r, 0, none⟩)]) (t := 42) (fr := (0, 0)) (heap_alloc_new w _)) (by simp [Value.oneCell']) (by omega) (by unfold maxLen; omega) (by omega) (by omega) _ rfl ?_; intro g cap' w1 hown1 hgrow1 hat1 hlt1; obtain ⟨hr1, hfr1, hraw⟩ := add_end HW.out HT.out h8 hown1 hgrow1 hat1 hlt1; have HR : Hid (∃ ρ', Moved NZ ρ w ρ' (w1.setCell ⟨W, 0, none⟩ (.slice (some ⟨g, 0, none⟩) (ts.length + 1) cap')) ∧ Wd ρ' (w1.setCell ⟨W, 0, none⟩ (.slice (some ⟨g, 0, none⟩) (ts.length + 1) cap')) W most (.slice (some ⟨g, 0, none⟩) (ts.length + 1) cap') (ts ++ [(x, r, l)])) := hraw; clear hown1 hgrow1 hat1 hraw))
  go_ret
  obtain ⟨ρ', h1, h2⟩ := HR.out
  exact ⟨rfl, ρ', _, h1, h2⟩

end Go.Proofs.YtcgjppacnhmjlaaGreat
