/- Going through: what Scan gives. Going through: the function that Scan gives, as a loop takes it; what a loop's own records leave alone. -/
import Derived.Test.YtcgjppacnhmjlaaGreatWalkD
import Derived.Test.YtcgjppacnhmjlaaGreatLawFacts
set_option linter.unusedVariables false
set_option linter.unusedSimpArgs false
namespace Go.Proofs.YtcgjppacnhmjlaaGreat

section
open Go.RowKit Go.Shelf
attribute [local go_sem] Oper.semAt_some

section
variable {α : Type} {S : Nat → Prop} {J Jx : List α → World → Prop} {val : α → KV} {fr to : ByteArray} {lb N n n₀ : Nat}
set_option maxRecDepth 100000 in
set_option maxHeartbeats 2000000 in
/-- The function that Scan gives, called with a loop's own yield. -/
theorem scanFn_any (hG : Goes S n₀ J) (hY : YieldOk S J Jx val lb N) (hf : fr.size ≤ 9223372036854775807) {W : World} {bx bf bt xb : Nat} {tp : Option Addr} {l : List KV} {ys : List α} (cx : W.cell? ⟨bx, 0, none⟩ = some (.pointer (some ⟨xb, 0, none⟩))) (cf : W.cell? ⟨bf, 0, none⟩ = some (.string fr)) (ct : W.cell? ⟨bt, 0, none⟩ = some (.string to))
    (ci : W.cell? ⟨xb, 0, none⟩ = some (.pointer tp)) (hT : TreeN S n W tp l) (hJ : J [] W) (hN : ys.length ≤ N) (hy : ys.map val = rng fr.data.toList to.data.toList l) :
    Calls Tryz.prog 42 #[.func (.yield lb) #[] #[], .pointer (some ⟨bx, 0, none⟩), .pointer (some ⟨bf, 0, none⟩), .pointer (some ⟨bt, 0, none⟩)] W fun e W' => (∃ v, e = .returned v) ∧ (J ys W' ∨ ∃ q, q <+: ys ∧ Jx q W') := by
  have hd : Below W.heap.size W W.drew := (Below.refl _ _).drew
  have HL : Hid (Calls Tryz.prog 23 #[.pointer (some ⟨xb, 0, none⟩)] W.drew fun e w' => e = .returned (.pointer tp) ∧ w' = W.drew) := load_any (cell_later hd ci) (hT.on hd).ptr
  have HW : Hid (Calls Tryz.prog 43 #[.pointer tp, .string fr, .string to, .func (.yield lb) #[] #[]] W.drew fun e W' => ∃ b, e = .returned (.bool b) ∧ (J ys W' ∨ ∃ q, q <+: ys ∧ Jx q W')) := by
    refine (walk_tree hG hY hf (hT.on hd) (hG.later _ _ _ hJ hd) (by simpa using hN) hy).mono ?_
    rintro e W' (⟨b, rfl, h1, _⟩ | ⟨rfl, q, h1, h2⟩)
    · exact ⟨b, rfl, .inl (by simpa using h1)⟩
    · exact ⟨false, rfl, .inr ⟨q, h1, by simpa using h2⟩⟩
  clear hG hY hT hJ hN hy hd ci
  refine (callsIn_wide (n := 3)).1 ?_
  refine callsIn_of_wp Tryz.func42 rfl trivial ?_ rfl
  simp only [Tryz.ntmps42, List.size_toArray, List.length_cons, List.length_nil, Nat.reduceAdd, Nat.reduceSub, Array.replicate_succ, Array.replicate_zero, List.push_toArray, List.append_toArray, List.nil_append, List.cons_append]
  gi_wp2
  refine wpIn_region_any (by kernel_rfl) ?_
  change wpAnyIn _ _ _ _ _ _ 8 _ _ (World.drew _)
  generalize hops : (#[_, _, _, _, _, _, _, _] : Array Oper) = ops
  have hsil : Silent ops 7 := by rw [← hops]; exact silent_of (by kernel_rfl)
  have hosz : ops.size = 8 := by rw [← hops]; rfl
  obtain ⟨V, hV⟩ : ∃ V : Nat → Value, V = fun i => ([.pointer (some ⟨xb, 0, none⟩), .pointer (some ⟨xb, 0, none⟩), .pointer (some ⟨xb, 0, none⟩), .pointer tp, .string fr, .string to, .func (.yield lb) #[] #[]] : List Value).getD i undef := ⟨_, rfl⟩
  have hdst : ∀ j, j < 7 → dstOf ops j = some (5 + j) := by
    intro j hj
    have : j = 0 ∨ j = 1 ∨ j = 2 ∨ j = 3 ∨ j = 4 ∨ j = 5 ∨ j = 6 := by omega
    rw [← hops]
    rcases this with rfl | rfl | rfl | rfl | rfl | rfl | rfl <;> rfl
  have hun : unl 7 (Array.replicate 8 false) = [0, 1, 2, 3, 4, 5, 6] := by kernel_rfl
  rw [hosz]
  generalize hact : ({ tmps := _, defers := _ } : Act) = a0
  obtain ⟨aAll, haAll⟩ : ∃ aAll, putAll ops V [0, 1, 2, 3, 4, 5, 6] a0 = aAll := ⟨_, rfl⟩
  have haA := haAll
  rw [← hact] at haA
  simp only [putAll, List.foldl, hdst 0 (by decide), hdst 1 (by decide), hdst 2 (by decide), hdst 3 (by decide), hdst 4 (by decide), hdst 5 (by decide), hdst 6 (by decide), Act.put, hV] at haA
  simp at haA
  refine silent_walkG (V := V) hsil rfl aAll 1 ?hop ?hrest 7 _ _ (by simp [hosz]) (by rw [hun]; rfl) (by rw [hun]; exact haAll) ?hno ?hcl
  case hno => intro i h1 h2; rw [hosz] at h2; simp [h2]
  case hcl =>
    intro i j h1
    exfalso
    rw [Array.getD_eq_getD_getElem?, Array.getElem?_replicate] at h1
    split at h1 <;> simp at h1
  case hop =>
    rw [← haA]
    intro i hi o ho
    have : i = 0 ∨ i = 1 ∨ i = 2 ∨ i = 3 ∨ i = 4 ∨ i = 5 ∨ i = 6 := by omega
    rw [← hops] at ho
    rcases this with rfl | rfl | rfl | rfl | rfl | rfl | rfl
    all_goals (cases ho; rw [← hops])
    case inr.inr.inr.inl =>
      refine quietly_call (f := 23) (args := #[.pointer (some ⟨xb, 0, none⟩)]) rfl (fun h => by cases h) (by rfl) ?_ (fun g _ => trivial) ?_
      · have he := enters_of (P := Tryz.prog) Tryz.func23 (by kernel_rfl) rfl
        simp [go_sem, he]
      · rw [hV]; exact callsIn_wide.2 HL.out
    all_goals (refine quietly_value rfl ⟨by rfl, ?_, ?_⟩)
    all_goals (first | rfl | (simp [hV, go_sem, cx, cf, ct]; done) | skip)
  case hrest =>
    have hup : upTo' ops 7 = #[true, true, true, true, true, true, true, false] := by rw [← hops]; kernel_rfl
    rw [hup]
    clear haAll hact hup hun hdst hsil hosz hV
    subst haA
    subst hops
    refine wpAnyIn_all (rs := [7]) (by kernel_rfl) (by simp) ?_
    intro i hi
    obtain rfl := List.mem_singleton.1 hi
    refine wpOpIn_step rfl ?_
    intro K hK
    go_simp
    refine ⟨trivial, (callsIn_wide.2 HW.out).mono ?_⟩
    rintro e W2 ⟨b, rfl, hE⟩
    have HE : Hid (J ys W2 ∨ ∃ q, q <+: ys ∧ Jx q W2) := hE
    clear hE
    refine hK _ _ ?_
    refine wpAnyIn_done (by kernel_rfl) ?_ _
    gi_wp2
    go_end0
    exact ⟨⟨_, rfl⟩, HE.out⟩
end
/-- Scan: the function, and the three boxes that it holds. -/
theorem scan_any (xb : Nat) (fr to : ByteArray) (w : World) : Calls Tryz.prog 27 #[.pointer (some ⟨xb, 0, none⟩), .string fr, .string to] w fun e w' => e = .returned (.func (.func 42) #[] #[.pointer (some ⟨w.heap.size, 0, none⟩), .pointer (some ⟨w.heap.size + 1, 0, none⟩), .pointer (some ⟨w.heap.size + 2, 0, none⟩)]) ∧
    w'.cell? ⟨w.heap.size, 0, none⟩ = some (.pointer (some ⟨xb, 0, none⟩)) ∧ w'.cell? ⟨w.heap.size + 1, 0, none⟩ = some (.string fr) ∧ w'.cell? ⟨w.heap.size + 2, 0, none⟩ = some (.string to) ∧ w.heap.size + 2 < w'.heap.size ∧ Below w.heap.size w w' := by
  go_enter Tryz.func27, Tryz.ntmps27
  go_wp2
  go_ret
  have c1 : ∀ (u : World) (v : Value) (t : TypeId), (u.alloc (.cells #[v] t)).cell? ⟨u.heap.size, 0, none⟩ = some v := fun u v t => by
    have := heap_alloc_new u (.cells #[v] t)
    unfold World.cell?
    rw [this]
    rfl
  have b1 : ∀ (u : World) (o : Obj), Below u.heap.size u (u.alloc o) := fun u o => (Below.refl _ _).alloc (Nat.le_refl _) _
  refine ⟨rfl, cell_later (b1 _ _) (cell_later (b1 _ _) (c1 w _ _)), ?_, ?_, ?_, ?_⟩
  · have := c1 (w.alloc (.cells #[.pointer (some ⟨xb, 0, none⟩)] 31)) (.string fr) 9
    rw [World.size_alloc] at this
    exact cell_later (b1 _ _) this
  · have := c1 ((w.alloc (.cells #[.pointer (some ⟨xb, 0, none⟩)] 31)).alloc (.cells #[.string fr] 9)) (.string to) 9
    rw [World.size_alloc, World.size_alloc] at this
    exact this
  · simp
  · exact (((Below.refl _ _).alloc (Nat.le_refl _) _).alloc (by simp) _).alloc (by simp; omega) _
end

section
open Go.RowKit Go.Shelf

/-- A block of cells. -/
def IsC (w : World) (k : Nat) : Prop := ∃ o : Obj, w.heap[k]? = some o ∧ o.isCells = true
theorem isC_of_cell {w : World} {b o : Nat} {v : Value} (h : w.cell? ⟨b, o, none⟩ = some v) : IsC w b := cells_of_cell h
theorem RepN.cellsOnly {S : Nat → Prop} {w : World} : ∀ {n b : Nat} {l : List KV}, RepN S n w b l → RepN (fun k => S k ∧ IsC w k) n w b l
  | 0, _, _, h => h.elim
  | n + 1, b, l, ⟨pre, vp, bv, ov, cs, xs, gs, hN, hO, hR, hl, hC, hs⟩ => by
    refine ⟨pre, vp, bv, ov, cs, xs, gs, ⟨⟨hN.inS, isC_of_cell hN.c0⟩, hN.blk, hN.short⟩, ?_, ?_, hl, fun i c g h1 h2 => RepN.cellsOnly (hC i c g h1 h2), hs⟩
    · cases ov with
      | none => exact hO
      | some v => obtain ⟨vb, h1, h2, h3⟩ := hO; exact ⟨vb, ⟨h1, isC_of_cell h3⟩, h2, h3⟩
    · rcases hR with h | ⟨k, o, cap, h1, h2, h3, h4, h5, h6⟩
      · exact .inl h
      · obtain ⟨c0, cr, rfl⟩ := List.exists_cons_of_ne_nil h6
        exact .inr ⟨k, o, cap, ⟨h1, isC_of_cell (h5 0 c0 rfl)⟩, h2, h3, h4, h5, h6⟩
/-- A block that is no cells has turned, or blocks have been made. -/
def Turned (w w' : World) : Prop := ∃ row, w.grownBy w' row ∧ ∀ r, row = some r → ∃ o : Obj, w.heap[r]? = some o ∧ o.isCells = false
theorem Turned.block {w w' : World} (h : Turned w w') {k : Nat} (hk : IsC w k) : w'.heap[k]? = w.heap[k]? := by
  obtain ⟨row, hg, hr⟩ := h
  obtain ⟨o, ho, hc⟩ := hk
  refine hg.block k (Array.getElem?_eq_some_iff.mp ho).1 (fun e => ?_)
  obtain ⟨o', ho', hc'⟩ := hr k e.symm
  rw [ho] at ho'; cases ho'; rw [hc] at hc'; cases hc'
theorem Turned.size {w w' : World} (h : Turned w w') : w.heap.size ≤ w'.heap.size := by obtain ⟨row, hg, _⟩ := h; exact hg.size
theorem IndexAt.turn {S : Nat → Prop} {w w' : World} {x : Nat} {l : List KV} (h : IndexAt S w x l) (ht : Turned w w') : IndexAt S w' x l := by
  obtain ⟨⟨n, tp, hx, hT⟩, h2, h3⟩ := h
  refine ⟨⟨n, tp, (ht.block ⟨_, hx, rfl⟩).trans hx, ?_⟩, h2, h3⟩
  rcases hT with hT | ⟨t, h4, h5⟩
  · exact .inl hT
  · exact .inr ⟨t, h4, h5.cellsOnly.keep (fun k hk => ht.block hk.2) (fun k hk _ => hk.1) (Nat.le_refl _)⟩
theorem TreeN.weaken {S S' : Nat → Prop} {n : Nat} {w : World} {tp : Option Addr} {l : List KV} (h : TreeN S n w tp l) (hS : ∀ k, S k → k < w.heap.size → S' k) : TreeN S' n w tp l := by
  rcases h with h | ⟨t, h1, h2⟩
  · exact .inl h
  · exact .inr ⟨t, h1, h2.weaken hS⟩
theorem IndexAt.weaken {S S' : Nat → Prop} {w : World} {x : Nat} {l : List KV} (h : IndexAt S w x l) (hS : ∀ k, S k → k < w.heap.size → S' k) (hx : ¬ S' x) : IndexAt S' w x l := by
  obtain ⟨⟨n, tp, h0, hT⟩, h2, h3⟩ := h
  exact ⟨⟨n, tp, h0, hT.weaken hS⟩, hx, h3⟩

theorem yield_depth {m m' : Nat} {P : Program} {l : Nat} {args : Array Value} {W : World} {R : Ending → World → Prop} (h : YieldAt Fence.wide m P l args W R) : YieldAt Fence.wide m' P l args W R := by
  obtain ⟨fn, tmps, assign, body, hy, hR⟩ := h
  exact ⟨fn, tmps, assign, body, hy, hR.1, fun c cs _ => hR.2 c cs (room_wide _)⟩

/-- What a round must keep: the tree that is gone through. -/
def KpS (S : Nat → Prop) (W W' : World) : Prop := Kept S W W' ∧ W.heap.size ≤ W'.heap.size
theorem kpS_t {S : Nat → Prop} {A B C : World} (h : KpS S A B) (k : KpS S B C) : KpS S A C := ⟨h.1.trans k.1, Nat.le_trans h.2 k.2⟩
theorem kpS_b {S : Nat → Prop} {n₀ : Nat} {w : World} (hS : ∀ k, S k → k < n₀) (hn : n₀ ≤ w.heap.size) (W : World) (l : Nat) (o o' : Obj) (hl : w.heap.size ≤ l) (h : W.heap[l]? = some o) (_ : o.isCells = false) (_ : o.isWalk = false) : KpS S W (W.putObj l o') :=
  ⟨fun k hk => World.putObj_heap_other (by have := hS k hk; omega), by simp [World.putObj]⟩

/-- The pairs that will come. -/
abbrev Ran (R : List KV) := { e : KV // e ∈ R }
def encR {R : List KV} (e : Ran R) : Array Value := #[.string ⟨e.1.1.toArray⟩, .int .i64 e.1.2]

theorem scan_stops {n m : Nat} {S : Nat → Prop} {fr to : ByteArray} {w : World} {bx bf bt xb : Nat} {tp : Option Addr} {l : List KV} (hf : fr.size ≤ 9223372036854775807) (hS : ∀ k, S k → k < w.heap.size)
    (cx : w.cell? ⟨bx, 0, none⟩ = some (.pointer (some ⟨xb, 0, none⟩))) (cf : w.cell? ⟨bf, 0, none⟩ = some (.string fr)) (ct : w.cell? ⟨bt, 0, none⟩ = some (.string to)) (ci : w.cell? ⟨xb, 0, none⟩ = some (.pointer tp)) (hT : TreeN S n w tp l) :
    SeqStopsK (α := Ran (rng fr.data.toList to.data.toList l)) Fence.wide m Tryz.prog 42 #[.pointer (some ⟨bx, 0, none⟩), .pointer (some ⟨bf, 0, none⟩), .pointer (some ⟨bt, 0, none⟩)] encR (KpS S) (fun ys => ys = (rng fr.data.toList to.data.toList l).attach) (fun pre => pre <+: (rng fr.data.toList to.data.toList l).attach) (rng fr.data.toList to.data.toList l).attach.length w := by
  intro lb J Jx W hb hJ hJx hY h0
  refine callsIn_wide.2 ?_
  have hG : Goes S w.heap.size (fun pre W' => J pre W' ∧ W.heap.size ≤ W'.heap.size) := {
    low := hS
    size := fun pre W' h => Nat.le_trans hb.size h.2
    later := fun pre W1 W2 h hb2 => ⟨hJ pre W1 W2 none h.1 ⟨hb2.os, hb2.tape, hb2.output, hb2.size, fun k hk _ => hb2.block k hk⟩ (fun r e => by cases e), Nat.le_trans h.2 hb2.size⟩ }
  have hYo : YieldOk S (fun pre W' => J pre W' ∧ W.heap.size ≤ W'.heap.size) Jx (fun e : Ran (rng fr.data.toList to.data.toList l) => e.1) lb (rng fr.data.toList to.data.toList l).attach.length := fun m' pre x W1 hJ1 hN => by
    refine YieldAt.mono (yield_depth (hY pre x W1 hJ1.1 hN)) fun e W' h => ?_
    rcases h with ⟨h1, h2, h3⟩ | h
    · exact .inl ⟨h1, ⟨h2, Nat.le_trans hJ1.2 h3.2⟩, h3.1⟩
    · exact .inr h
  refine (scanFn_any (n := n) (ys := (rng fr.data.toList to.data.toList l).attach) hG hYo hf (cell_later hb cx) (cell_later hb cf) (cell_later hb ct) (cell_later hb ci) (hT.on hb) ⟨h0, Nat.le_refl _⟩ (Nat.le_refl _) (List.attach_map_subtype_val _)).mono ?_
  rintro e W' ⟨hv, h | ⟨q, h1, h2⟩⟩
  · exact ⟨hv, .inl ⟨_, rfl, h.1⟩⟩
  · exact ⟨hv, .inr ⟨q, h1, h2⟩⟩

theorem func_nil (fn : Fn) (a b : Array Value) (w : World) : (binOp BinOp.eql 73 (.func fn a b) .nilFunc).run Tryz.prog w = .ok (.bool false) w := by
  have := Tryz.underlying73
  have e : Op.maxDepth = (Op.maxDepth - 1) + 1 := by decide
  simp only [binOp, Op.equal]
  rw [e]
  unfold Op.equalIn
  simp [go_sem, run_underlying this]
end

end Go.Proofs.YtcgjppacnhmjlaaGreat
