/- Going through: the function that Scan gives, as a loop takes it; what a loop's own records leave alone. -/
import Derived.Test.YtcgjppacnhmjlaaWalkE
import Derived.Test.YtcgjppacnhmjlaaLawFacts
set_option linter.unusedVariables false
set_option linter.unusedSimpArgs false
namespace Go.Proofs.Ytcgjppacnhmjlaa
open Go.RowKit Go.Shelf

/-- A block of cells. -/
def IsC (w : World) (k : Nat) : Prop := ∃ o : Obj, w.heap[k]? = some o ∧ o.isCells = true
theorem isC_of_cell {w : World} {b o : Nat} {v : Value} (h : w.cell? ⟨b, o, none⟩ = some v) : IsC w b := cells_of_cell h
theorem RepN.cellsOnly {S : Nat → Prop} {w : World} : ∀ {n b : Nat} {l : List KV}, RepN S n w b l → RepN (fun k => S k ∧ IsC w k) n w b l
  | 0, _, _, h => h.elim
  | n + 1, b, l, ⟨pre, vp, bv, ov, cs, xs, gs, hN, hO, hR, hl, hC, hs⟩ => by
    refine ⟨pre, vp, bv, ov, cs, xs, gs, ⟨⟨hN.inS, isC_of_cell hN.c0⟩, hN.blk, hN.short⟩, ?_, ?_, hl, fun i c g h1 h2 => RepN.cellsOnly (hC i c g h1 h2), hs⟩
    · cases ov with
      | none => exact hO
      | some v => obtain ⟨vb, h1, h2, h3⟩ := hO; exact ⟨vb, ⟨h1, isC_of_cell h3⟩, h2, h3⟩
    · rcases hR with h | ⟨k, o, cap, h1, h2, h3, h4, h5, h6⟩
      · exact .inl h
      · obtain ⟨c0, cr, rfl⟩ := List.exists_cons_of_ne_nil h6
        exact .inr ⟨k, o, cap, ⟨h1, isC_of_cell (h5 0 c0 rfl)⟩, h2, h3, h4, h5, h6⟩
/-- A block that is no cells has turned, or blocks have been made. -/
def Turned (w w' : World) : Prop := ∃ row, w.grownBy w' row ∧ ∀ r, row = some r → ∃ o : Obj, w.heap[r]? = some o ∧ o.isCells = false
theorem Turned.block {w w' : World} (h : Turned w w') {k : Nat} (hk : IsC w k) : w'.heap[k]? = w.heap[k]? := by
  obtain ⟨row, hg, hr⟩ := h
  obtain ⟨o, ho, hc⟩ := hk
  refine hg.block k (Array.getElem?_eq_some_iff.mp ho).1 (fun e => ?_)
  obtain ⟨o', ho', hc'⟩ := hr k e.symm
  rw [ho] at ho'; cases ho'; rw [hc] at hc'; cases hc'
theorem Turned.size {w w' : World} (h : Turned w w') : w.heap.size ≤ w'.heap.size := by obtain ⟨row, hg, _⟩ := h; exact hg.size
theorem IndexAt.turn {S : Nat → Prop} {w w' : World} {x : Nat} {l : List KV} (h : IndexAt S w x l) (ht : Turned w w') : IndexAt S w' x l := by
  obtain ⟨⟨n, tp, hx, hT⟩, h2, h3⟩ := h
  refine ⟨⟨n, tp, (ht.block ⟨_, hx, rfl⟩).trans hx, ?_⟩, h2, h3⟩
  rcases hT with hT | ⟨t, h4, h5⟩
  · exact .inl hT
  · exact .inr ⟨t, h4, h5.cellsOnly.keep (fun k hk => ht.block hk.2) (fun k hk _ => hk.1) (Nat.le_refl _)⟩
theorem TreeN.weaken {S S' : Nat → Prop} {n : Nat} {w : World} {tp : Option Addr} {l : List KV} (h : TreeN S n w tp l) (hS : ∀ k, S k → k < w.heap.size → S' k) : TreeN S' n w tp l := by
  rcases h with h | ⟨t, h1, h2⟩
  · exact .inl h
  · exact .inr ⟨t, h1, h2.weaken hS⟩
theorem IndexAt.weaken {S S' : Nat → Prop} {w : World} {x : Nat} {l : List KV} (h : IndexAt S w x l) (hS : ∀ k, S k → k < w.heap.size → S' k) (hx : ¬ S' x) : IndexAt S' w x l := by
  obtain ⟨⟨n, tp, h0, hT⟩, h2, h3⟩ := h
  exact ⟨⟨n, tp, h0, hT.weaken hS⟩, hx, h3⟩

theorem yield_depth {m m' : Nat} {P : Program} {l : Nat} {args : Array Value} {W : World} {R : Ending → World → Prop} (h : YieldAt Fence.wide m P l args W R) : YieldAt Fence.wide m' P l args W R := by
  obtain ⟨fn, tmps, assign, body, hy, hR⟩ := h
  exact ⟨fn, tmps, assign, body, hy, hR.1, fun c cs _ => hR.2 c cs (room_wide _)⟩

/-- What a round must keep: the tree that is gone through. -/
def KpS (S : Nat → Prop) (W W' : World) : Prop := Kept S W W' ∧ W.heap.size ≤ W'.heap.size
theorem kpS_t {S : Nat → Prop} {A B C : World} (h : KpS S A B) (k : KpS S B C) : KpS S A C := ⟨h.1.trans k.1, Nat.le_trans h.2 k.2⟩
theorem kpS_b {S : Nat → Prop} {n₀ : Nat} {w : World} (hS : ∀ k, S k → k < n₀) (hn : n₀ ≤ w.heap.size) (W : World) (l : Nat) (o o' : Obj) (hl : w.heap.size ≤ l) (h : W.heap[l]? = some o) (_ : o.isCells = false) (_ : o.isWalk = false) : KpS S W (W.putObj l o') :=
  ⟨fun k hk => World.putObj_heap_other (by have := hS k hk; omega), by simp [World.putObj]⟩

/-- The pairs that will come. -/
abbrev Ran (R : List KV) := { e : KV // e ∈ R }
def encR {R : List KV} (e : Ran R) : Array Value := #[.string ⟨e.1.1.toArray⟩, .string e.1.2]

theorem scan_stops {n m : Nat} {S : Nat → Prop} {fr to : ByteArray} {w : World} {bx bf bt xb : Nat} {tp : Option Addr} {l : List KV} (hf : fr.size ≤ 9223372036854775807) (hS : ∀ k, S k → k < w.heap.size)
    (cx : w.cell? ⟨bx, 0, none⟩ = some (.pointer (some ⟨xb, 0, none⟩))) (cf : w.cell? ⟨bf, 0, none⟩ = some (.string fr)) (ct : w.cell? ⟨bt, 0, none⟩ = some (.string to)) (ci : w.cell? ⟨xb, 0, none⟩ = some (.pointer tp)) (hT : TreeN S n w tp l) :
    SeqStopsK (α := Ran (rng fr.data.toList to.data.toList l)) Fence.wide m Try.prog 39 #[.pointer (some ⟨bx, 0, none⟩), .pointer (some ⟨bf, 0, none⟩), .pointer (some ⟨bt, 0, none⟩)] encR (KpS S) (fun ys => ys = (rng fr.data.toList to.data.toList l).attach) (fun pre => pre <+: (rng fr.data.toList to.data.toList l).attach) (rng fr.data.toList to.data.toList l).attach.length w := by
  intro lb J Jx W hb hJ hJx hY h0
  refine callsIn_wide.2 ?_
  have hG : Goes S w.heap.size (fun pre W' => J pre W' ∧ W.heap.size ≤ W'.heap.size) := {
    low := hS
    size := fun pre W' h => Nat.le_trans hb.size h.2
    later := fun pre W1 W2 h hb2 => ⟨hJ pre W1 W2 none h.1 ⟨hb2.os, hb2.tape, hb2.output, hb2.size, fun k hk _ => hb2.block k hk⟩ (fun r e => by cases e), Nat.le_trans h.2 hb2.size⟩ }
  have hYo : YieldOk S (fun pre W' => J pre W' ∧ W.heap.size ≤ W'.heap.size) Jx (fun e : Ran (rng fr.data.toList to.data.toList l) => e.1) lb (rng fr.data.toList to.data.toList l).attach.length := fun m' pre x W1 hJ1 hN => by
    refine YieldAt.mono (yield_depth (hY pre x W1 hJ1.1 hN)) fun e W' h => ?_
    rcases h with ⟨h1, h2, h3⟩ | h
    · exact .inl ⟨h1, ⟨h2, Nat.le_trans hJ1.2 h3.2⟩, h3.1⟩
    · exact .inr h
  refine (scanFn_any (n := n) (ys := (rng fr.data.toList to.data.toList l).attach) hG hYo hf (cell_later hb cx) (cell_later hb cf) (cell_later hb ct) (cell_later hb ci) (hT.on hb) ⟨h0, Nat.le_refl _⟩ (Nat.le_refl _) (List.attach_map_subtype_val _)).mono ?_
  rintro e W' ⟨hv, h | ⟨q, h1, h2⟩⟩
  · exact ⟨hv, .inl ⟨_, rfl, h.1⟩⟩
  · exact ⟨hv, .inr ⟨q, h1, h2⟩⟩

theorem func_nil (fn : Fn) (a b : Array Value) (w : World) : (binOp BinOp.eql 37 (.func fn a b) .nilFunc).run Try.prog w = .ok (.bool false) w := by
  have := Try.underlying37
  have e : Op.maxDepth = (Op.maxDepth - 1) + 1 := by decide
  simp only [binOp, Op.equal]
  rw [e]
  unfold Op.equalIn
  simp [go_sem, run_underlying this]

end Go.Proofs.Ytcgjppacnhmjlaa
