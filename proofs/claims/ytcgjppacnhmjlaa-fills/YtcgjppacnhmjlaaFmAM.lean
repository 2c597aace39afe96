/- Own texts: FwD, FwE, FwF. -/
import Derived.Test.YtcgjppacnhmjlaaFmAL
import Derived.Conc.SmallLaws
import Derived.Conc.MarkLaws

section
set_option linter.unusedVariables false
set_option linter.unusedSimpArgs false
set_option linter.unusedSectionVars false
/-! Single operations; Add of +1 in company. -/
namespace Go.Proofs.Ytcgjppacnhmjlaa.Sim
open Go Go.Conc Go.ConcN Go.Conc.Lib Go.ConcR.Gen
open Go.ConcR (KK wgBlock WgAt stA smA rd wr mk Payload DC0)
set_option linter.unusedVariables false
set_option linter.unusedSectionVars false

section
variable {P : Program} {g : Goroutine} {i : Nat} {w w' : World} {main : Bool}
/-- It stands at operation i of a region. -/
structure AtR (g : Goroutine) (i : Nat) : Prop where
  eq : g = atG g i
  op : (opsG g)[i]? = some (oG g)
  wanted : Region.wanted (oG g) (yielded (opsG g) g.frame.tmps) = true
  kind : (g.frame.kind == .early) = false
theorem AtR.ne (h : AtR g i) : g.frame.kind ≠ .early := by have := h.kind; simpa using this
theorem step_value {v : Value} (h : AtR g i) (hr : (execOp (aG g).eval (oG g)).run P w = .ok (.value v) w') : stepG P main g w = .go (putG g v) w' (listed P g.frame.fn (aG g) (oG g) w) := by
  rw [show stepG P main g w = stepG P main (atG g i) w by rw [← h.eq]]
  exact stepG_value h.op h.wanted h.ne hr
theorem step_none (h : AtR g i) (hr : (execOp (aG g).eval (oG g)).run P w = .ok .skip w') : stepG P main g w = .go (putG g undef) w' (listed P g.frame.fn (aG g) (oG g) w) := by
  rw [show stepG P main g w = stepG P main (atG g i) w by rw [← h.eq]]
  exact stepG_none h.op h.wanted h.ne hr
theorem seen_none (P : Program) (fn : FuncId) : seen P fn #[] = #[] := by simp [seen]
/-- A pointer that is seen as any. -/
theorem ex_conv {ev : Operand → Value} {o : Oper} {s d t : TypeId} {x : Operand} {a : Addr} {v : Value} (hop : o.op = .convert s d x) (hx : ev x = .pointer (some a)) (hs : P.underlying s = some (.pointer t)) (hd : P.underlying d = some .unsafePointer) (hsz : (P.info? t).map (fun i => decide (i.size = 0)) = some false) (hc : w.cell? a = some v) :
    (execOp ev o).run P w = .ok (.value (.pointer (some a))) w ∧ (execOp ev o).events P w #[] = #[] := by
  have h1 := run_convert_to_unsafe (w := w) hs hd hsz hc
  have h2 := events_convert_to_unsafe (w := w) hs hd hsz hc
  exact ⟨by simp [execOp, hop, hx, go_sem, h1], by simp [execOp, hop, hx, go_sem, h2]⟩
theorem step_conv {s d t : TypeId} {x : Operand} {a : Addr} {v : Value} (h : AtR g i) (hop : (oG g).op = .convert s d x) (hx : (aG g).eval x = .pointer (some a)) (hs : P.underlying s = some (.pointer t)) (hd : P.underlying d = some .unsafePointer) (hsz : (P.info? t).map (fun i => decide (i.size = 0)) = some false) (hc : w.cell? a = some v) :
    stepG P main g w = .go (putG g (.pointer (some a))) w #[] := by
  obtain ⟨h1, h2⟩ := ex_conv (w := w) hop hx hs hd hsz hc
  rw [step_value h h1]
  unfold listed
  rw [h2, seen_none]
end

noncomputable def hdF : List Frame → Frame
  | f :: _ => f
  | [] => Frame.enter Try.prog 0 #[] .normal
def tlF : List Frame → List Frame
  | _ :: l => l
  | [] => []
theorem WgLive.c0 {ty : TypeId} {Wg : Nat} {w : World} (h : WgLive ty Wg w) : ∃ v, w.cell? ⟨Wg, 0, none⟩ = some v := let ⟨_, _, x⟩ := h; ⟨_, x.cellSt⟩
theorem WgLive.c1 {ty : TypeId} {Wg : Nat} {w : World} (h : WgLive ty Wg w) : ∃ v, w.cell? ⟨Wg, 1, none⟩ = some v := let ⟨_, _, x⟩ := h; ⟨_, x.cellSm⟩

section
variable {C : FC} {S K : Nat → Prop} {J vb d0 : Nat} {Mo : (Nat → Gh) → Int → Int → Prop} {Post : Value → World → Prop} {w0 : World} {c : Frame} {cs : List Frame}
theorem OFg.eqv {g g' : Goroutine} (h : g = g') (hn : OFg C Post S K J Mo d0 g' w0) : OFg C Post S K J Mo d0 g w0 := h ▸ hn
noncomputable abbrev gA (Wg : Nat) (c : Frame) (cs : List Frame) : Goroutine := gor (Frame.enter Try.prog 106 #[pwg Wg, .int .i64 1] .normal) (c :: cs)
noncomputable def gA1 (Wg : Nat) (c : Frame) (cs : List Frame) : Goroutine := nxtN Try.prog true 24 (nxt Try.prog true (nxtN Try.prog true 12 (gA Wg c cs)))
noncomputable def gA2 (Wg : Nat) (c : Frame) (cs : List Frame) (s : Int) : Goroutine := gor ((hdF (gA1 Wg c cs).callers).finish (.int .u64 s)) (tlF (gA1 Wg c cs).callers)
/-- The convert of &wg.sema. -/
noncomputable def gA3 (Wg : Nat) (c : Frame) (cs : List Frame) : Goroutine := nxtN Try.prog true 48 (gA2 Wg c cs 4294967296)
set_option maxRecDepth 100000 in
theorem a3_at (Wg : Nat) : AtR (gA3 Wg c cs) 3 := ⟨by kernel_rfl, by kernel_rfl, by kernel_rfl, by kernel_rfl⟩

set_option maxRecDepth 100000 in
/-- The count was 0. -/
theorem o_add_first (hP : C.P = Try.prog) (hty : C.ty = 147) (hS : C.Stable) (hk : Kp C J Mo)
    (hnx : OFg C Post S K J Mo d0 (gor (c.finish (.tuple #[])) cs) w0) : OFg C Post S K J Mo (d0 + 1) (gA2 C.Wg c cs 4294967296) w0 := by
  refine .kern hS hk (n := 48) (by rw [hP]; ((repeat (refine ⟨by kernel_rfl, fun _ => by kernel_rfl, ?_⟩)); exact True.intro)) ?_
  rw [hP]
  refine .idle hS hk (by kernel_rfl) fun w hf => ?_
  obtain ⟨v, hv⟩ := WgLive.c1 hf.wg
  refine ⟨_, by rw [hP]; exact step_conv (a3_at (c := c) (cs := cs) C.Wg) (s := 173) (d := 74) (t := 145) (x := .tmp 70) (by kernel_rfl) (by kernel_rfl) wgLib.underlying_tPU32 wgLib.underlying_tUP wgLib.room_tU32 hv, ?_⟩
  refine .say (e := mk (.read ⟨C.Wg, 1, none⟩)) hS hk (by kernel_rfl) (fun w => by rw [hP]; kernel_rfl) (.inr (.inr (.inr (.inr ⟨_, rfl, .inl rfl⟩)))) (d1 := d0 + 1) rfl ?_
  rw [hP]
  refine .kern hS hk (n := 39) (by rw [hP]; ((repeat (refine ⟨by kernel_rfl, fun _ => by kernel_rfl, ?_⟩)); exact True.intro)) ?_
  rw [hP]
  refine .say (e := mk .enable) hS hk (by kernel_rfl) (fun w => by rw [hP]; kernel_rfl) (.inr (.inr (.inr (.inl (.inr (.inl rfl)))))) (d1 := d0) rfl ?_
  rw [hP]
  refine .kern hS hk (n := 1) (by rw [hP]; ((repeat (refine ⟨by kernel_rfl, fun _ => by kernel_rfl, ?_⟩)); exact True.intro)) ?_
  exact .eqv (by rw [hP]; kernel_rfl) hnx

set_option maxRecDepth 100000 in
/-- It was more. -/
theorem o_add_more {v : Nat} (hP : C.P = Try.prog) (hty : C.ty = 147) (hS : C.Stable) (hk : Kp C J Mo) (hv : v < 2147483600) (hv1 : 1 ≤ v)
    (hnx : OFg C Post S K J Mo d0 (gor (c.finish (.tuple #[])) cs) w0) : OFg C Post S K J Mo (d0 + 1) (gA2 C.Wg c cs (((v : Int) + 1) * KK)) w0 := by
  obtain ⟨V, hV⟩ : ∃ V : Int, V = (v : Int) + 1 := ⟨_, rfl⟩
  rw [← hV]
  have a1 : (V * KK).fdiv 4294967296 = V := by rw [show KK = 4294967296 from rfl]; rw [Int.fdiv_eq_ediv_of_nonneg _ (by omega)]; omega
  have b1 : bits .and .u64 (V * KK) 2147483648 = 0 := by rw [hV]; have := st_flag (v + 1) 0 (by omega) (by omega); simpa [KK] using this
  have b2 : bits .and .u64 (V * KK) 2147483647 = 0 := by rw [hV]; have := st_waiters (v + 1) 0 (by omega) (by omega); simpa [KK] using this
  have c1 : IntKind.i32.wrap V = V := by rw [IntKind.wrap_i32]; omega
  have q1 : decide (V = 1) = false := decide_eq_false (by omega)
  have q3 : decide (V < 0) = false := decide_eq_false (by omega)
  have q4 : decide (V > 0) = true := decide_eq_true (by omega)
  generalize V * KK = s at a1 b1 b2 ⊢
  refine .kern hS hk (n := 7) (by rw [hP]; ((repeat (refine ⟨by kernel_rfl, fun _ => by kernel_rfl, ?_⟩)); exact True.intro)) ?_
  rw [hP]
  refine .val (i := 45) (v := .int .u64 (bits .and .u64 s 2147483648)) (v' := .int .u64 0) (by kernel_rfl) (by rw [b1]) ?_
  refine .kern hS hk (n := 12) (by rw [hP]; ((repeat (refine ⟨by kernel_rfl, fun _ => by kernel_rfl, ?_⟩)); exact True.intro)) ?_
  rw [hP]
  refine .val (i := 53) (v := .int .u64 (s.fdiv 4294967296)) (v' := .int .u64 V) (by kernel_rfl) (by rw [a1]) ?_
  refine .kern hS hk (n := 1) (by rw [hP]; ((repeat (refine ⟨by kernel_rfl, fun _ => by kernel_rfl, ?_⟩)); exact True.intro)) ?_
  rw [hP]
  refine .val (i := 54) (v := .int .i32 (IntKind.i32.wrap V)) (v' := .int .i32 V) (by kernel_rfl) (by rw [c1]) ?_
  refine .kern hS hk (n := 6) (by rw [hP]; ((repeat (refine ⟨by kernel_rfl, fun _ => by kernel_rfl, ?_⟩)); exact True.intro)) ?_
  rw [hP]
  refine .val (i := 56) (v := .int .u64 (bits .and .u64 s 2147483647)) (v' := .int .u64 0) (by kernel_rfl) (by rw [b2]) ?_
  refine .kern hS hk (n := 15) (by rw [hP]; ((repeat (refine ⟨by kernel_rfl, fun _ => by kernel_rfl, ?_⟩)); exact True.intro)) ?_
  rw [hP]
  refine .val (i := 66) (v := .bool (decide (V = 1))) (v' := .bool false) (by kernel_rfl) (by rw [q1]) ?_
  refine .kern hS hk (n := 9) (by rw [hP]; ((repeat (refine ⟨by kernel_rfl, fun _ => by kernel_rfl, ?_⟩)); exact True.intro)) ?_
  rw [hP]
  refine .val (i := 74) (v := .bool (decide (V < 0))) (v' := .bool false) (by kernel_rfl) (by rw [q3]) ?_
  refine .kern hS hk (n := 26) (by rw [hP]; ((repeat (refine ⟨by kernel_rfl, fun _ => by kernel_rfl, ?_⟩)); exact True.intro)) ?_
  rw [hP]
  refine .val (i := 90) (v := .bool (decide (V > 0))) (v' := .bool true) (by kernel_rfl) (by rw [q4]) ?_
  refine .kern hS hk (n := 7) (by rw [hP]; ((repeat (refine ⟨by kernel_rfl, fun _ => by kernel_rfl, ?_⟩)); exact True.intro)) ?_
  rw [hP]
  refine .say (e := mk .enable) hS hk (by kernel_rfl) (fun w => by rw [hP]; kernel_rfl) (.inr (.inr (.inr (.inl (.inr (.inl rfl)))))) (d1 := d0) rfl ?_
  rw [hP]
  refine .kern hS hk (n := 1) (by rw [hP]; ((repeat (refine ⟨by kernel_rfl, fun _ => by kernel_rfl, ?_⟩)); exact True.intro)) ?_
  exact .eqv (by rw [hP]; kernel_rfl) hnx

set_option maxRecDepth 100000 in
/-- ████ Add(1). ████ -/
theorem o_add (hP : C.P = Try.prog) (hty : C.ty = 147) (hS : C.Stable) (hn : J + 1 - C.m < 2147483600)
    (hnx : OFg C Post S K J (MoO C J 1 vb) d0 (gor (c.finish (.tuple #[])) cs) w0) : OFg C Post S K J (MoO C J 0 vb) d0 (gA C.Wg c cs) w0 := by
  have hk0 := kp_open (C := C) (J := J) (p := 0) (vb := vb) hS hn (by omega)
  have hk1 := kp_open (C := C) (J := J) (p := 1) (vb := vb) hS hn (by omega)
  refine .kern hS hk0 (n := 12) (by rw [hP]; ((repeat (refine ⟨by kernel_rfl, fun _ => by kernel_rfl, ?_⟩)); exact True.intro)) ?_
  rw [hP]
  refine .say (e := mk .disable) hS hk0 (by kernel_rfl) (fun w => by rw [hP]; kernel_rfl) (.inr (.inr (.inr (.inl (.inl rfl))))) (d1 := d0 + 1) rfl ?_
  rw [hP]
  refine .kern hS hk0 (n := 24) (by rw [hP]; ((repeat (refine ⟨by kernel_rfl, fun _ => by kernel_rfl, ?_⟩)); exact True.intro)) ?_
  rw [hP]
  refine .eqv (g' := gUAdd C.Wg (hdF (gA1 C.Wg c cs).callers) (tlF (gA1 C.Wg c cs).callers)) (by kernel_rfl) (o_uadd hP hty hS hn fun v hv => ?_)
  rcases Nat.eq_zero_or_pos v with rfl | hp
  · have e : (((0 : Nat) : Int) + 1) * KK = 4294967296 := by decide
    rw [e]
    exact o_add_first hP hty hS hk1 hnx
  · exact o_add_more hP hty hS hk1 hv hp hnx
end

end Go.Proofs.Ytcgjppacnhmjlaa.Sim
end

section
set_option linter.unusedVariables false
set_option linter.unusedSimpArgs false
set_option linter.unusedSectionVars false
/-! Wait in company. -/
namespace Go.Proofs.Ytcgjppacnhmjlaa.Sim
open Go Go.Conc Go.ConcN Go.Conc.Lib Go.ConcR.Gen
open Go.ConcR (KK wgBlock WgAt stA smA rd wr mk Payload DC0)
set_option linter.unusedVariables false
set_option linter.unusedSectionVars false

section
variable {P : Program} {Post : Value → World → Prop} {O : Nat → Prop} {g g' : Goroutine} {w : World}
/-- Goroutine 0 beside leavers, whatever it is. -/
def MFg (P : Program) (Post : Value → World → Prop) (O : Nat → Prop) (g : Goroutine) (w : World) : Prop :=
  ∀ tp d gs sl t q, gs[0]? = some g → Leavers P t gs q → PQ O w.heap.size gs.size t → Fin P Post (crowd gs (re w tp d) sl) t
theorem MFg.toF {fr : Frame} {cs : List Frame} (h : MFg P Post O (gor fr cs) w) : MFin P Post O fr cs w := h
theorem MFin.toG {fr : Frame} {cs : List Frame} (h : MFin P Post O fr cs w) : MFg P Post O (gor fr cs) w := h
theorem MFg.eqv (h : g = g') (hn : MFg P Post O g' w) : MFg P Post O g w := h ▸ hn
theorem MFg.step (hrun : g.status = .running) (h : ∀ tp d, ∃ g' w' es, stepG P true g (re w tp d) = .go g' w' es ∧ w.heap.size ≤ w'.heap.size ∧ (∀ e ∈ es, EvM O w'.heap.size e) ∧ MFg P Post O g' w') : MFg P Post O g w := by
  intro tp d gs sl t q h0 hL hP
  generalize hμ : sumTo gs.size q = μ
  induction μ using Nat.strongRecOn generalizing d gs sl t q with
  | _ μ ih =>
    refine Fin.pick (awake_of_leavers hL h0 hrun) ⟨0, _, h0, hrun⟩ fun i g d' sl' hi hg => .inl ?_
    rw [at_re]
    rcases Nat.eq_zero_or_pos i with rfl | hpos
    · obtain rfl := Option.some.inj (h0.symm.trans hi)
      obtain ⟨g', w', es, h1, h2, h3, h4⟩ := h tp d'
      obtain ⟨gs', ops, r1, r2, r3, r4, r5⟩ := zero_step (sl := sl') hL hP h2 h0 h1 h3
      refine ⟨_, _, r1, ?_⟩
      have := h4 w'.tape w'.drawn gs' sl' (t ++ ops) q r2 r3 r4
      rwa [re_self] at this
    · obtain ⟨gs', ops, q', r1, r2, r3, r4, r5, r6⟩ := leaver_step (w := re w tp d') (sl := sl') hL hP hpos hi hg h0 hrun
      exact ⟨_, _, r1, ih _ (by rw [← hμ]; exact r5) d' gs' sl' (t ++ ops) q' r2 r3 r4 rfl⟩
/-- What has been drawn is of no matter. -/
theorem MFg.re {tp : Tape} {d : Nat} (h : MFg P Post O g w) : MFg P Post O g (Sim.re w tp d) := fun tp' d' gs sl t q h1 h2 h3 => h tp' d' gs sl t q h1 h2 h3
theorem MFg.kern : ∀ {n : Nat} {g : Goroutine}, Idle P true n g → MFg P Post O (nxtN P true n g) w → MFg P Post O g w
  | 0, _, _, h => by unfold nxtN at h; exact h
  | n + 1, g, hi, h => by
    unfold nxtN at h
    exact .step hi.1 fun tp d => ⟨_, _, #[], hi.2.1 _, Nat.le_refl _, fun e he => by simp at he, (MFg.kern hi.2.2 h).re⟩
end

section
variable {C : FC} {S K : Nat → Prop} {J vb d0 : Nat} {Mo : (Nat → Gh) → Int → Int → Prop} {Post : Value → World → Prop} {w0 : World} {c : Frame} {cs : List Frame}
noncomputable abbrev gW (Wg : Nat) (c : Frame) (cs : List Frame) : Goroutine := gor (Frame.enter Try.prog 88 #[pwg Wg] .normal) (c :: cs)
noncomputable def gW1 (Wg : Nat) (c : Frame) (cs : List Frame) : Goroutine := nxtN Try.prog true 10 (nxt Try.prog true (nxtN Try.prog true 3 (gW Wg c cs)))
/-- The frame of Wait at the loop's load, whatever lies idle. -/
noncomputable def fW (Wg : Nat) (c : Frame) (cs : List Frame) (x : Nat → Value) : Frame := { hdF (gW1 Wg c cs).callers with tmps := (pwg Wg :: (List.range 83).map fun i => x (i + 1)).toArray }
def xOf (fr : Frame) (i : Nat) : Value := (fr.tmps[i]?).getD undef

/-- Behind the load that reads 0. -/
noncomputable def gZ (Wg : Nat) (c : Frame) (cs : List Frame) (x : Nat → Value) : Goroutine := nxtN Try.prog true 3 (nxt Try.prog true (nxtN Try.prog true 27 (gor ((fW Wg c cs x).finish (.int .u64 0)) (c :: cs))))
set_option maxRecDepth 100000 in
theorem z_at (Wg : Nat) (x : Nat → Value) : AtR (gZ Wg c cs x) 1 := ⟨by kernel_rfl, by kernel_rfl, by kernel_rfl, by kernel_rfl⟩

set_option maxRecDepth 100000 in
theorem o_wait_zero (hP : C.P = Try.prog) (hty : C.ty = 147) (hS : C.Stable) (hn : J + 1 - C.m < 2147483600) (x : Nat → Value)
    (hnx : ∀ w, Rl S K w0 w → Joined C K J w → MFg C.P Post C.O (gor (c.finish (.tuple #[])) cs) w) : OFg C Post S K J (MoO C J 0 0) 1 (gor ((fW C.Wg c cs x).finish (.int .u64 0)) (c :: cs)) w0 := by
  have hk := kp_open (C := C) (J := J) (p := 0) (vb := 0) hS hn (by omega)
  refine .kern hS hk (n := 27) (by rw [hP]; ((repeat (refine ⟨by kernel_rfl, fun _ => by kernel_rfl, ?_⟩)); exact True.intro)) ?_
  rw [hP]
  refine .say (e := mk .enable) hS hk (by kernel_rfl) (fun w => by rw [hP]; kernel_rfl) (.inr (.inr (.inr (.inl (.inr (.inl rfl)))))) (d1 := 0) rfl ?_
  rw [hP]
  refine .kern hS hk (n := 3) (by rw [hP]; ((repeat (refine ⟨by kernel_rfl, fun _ => by kernel_rfl, ?_⟩)); exact True.intro)) ?_
  rw [hP]
  refine .idle hS hk (by kernel_rfl) fun w hf => ?_
  obtain ⟨v, hv⟩ := WgLive.c0 hf.wg
  refine ⟨_, by rw [hP]; exact step_conv (z_at (c := c) (cs := cs) C.Wg x) (s := 165) (d := 74) (t := 147) (x := .tmp 21) (by kernel_rfl) (by kernel_rfl) wgLib.underlying_tWgP wgLib.underlying_tUP wgLib.room_tWg hv, ?_⟩
  change OFg C Post S K J (MoO C J 0 0) 0 (putG (gZ C.Wg c cs x) (.pointer (some ⟨C.Wg, 0, none⟩))) w0
  generalize hgy : putG (gZ C.Wg c cs x) (.pointer (some ⟨C.Wg, 0, none⟩)) = gy
  refine .std (by rw [← hgy]; kernel_rfl) (OFin.acq (fr' := (nxt Try.prog true gy).frame) (cs' := (nxt Try.prog true gy).callers) hS hn (fun w _ _ => ?_) fun w h1 h2 => MFg.toF ?_)
  · rw [← hgy, hP]; kernel_rfl
  · refine .kern (n := 20) (by rw [← hgy, hP]; ((repeat (refine ⟨by kernel_rfl, fun _ => by kernel_rfl, ?_⟩)); exact True.intro)) (.eqv (g' := gor (c.finish (.tuple #[])) cs) (by rw [← hgy, hP]; kernel_rfl) (hnx w h1 h2))

/-! It has read v > 0. -/
section
variable (Wg : Nat) (c : Frame) (cs : List Frame) (x : Nat → Value) (s V : Int)
noncomputable def gL1 : Goroutine := setT (nxtN Try.prog true 6 (gor ((fW Wg c cs x).finish (.int .u64 s)) (c :: cs))) 13 (.int .u64 V)
noncomputable def gL2 : Goroutine := setT (nxtN Try.prog true 1 (gL1 Wg c cs x s V)) 14 (.int .i32 V)
noncomputable def gL3 : Goroutine := setT (nxtN Try.prog true 6 (gL2 Wg c cs x s V)) 16 (.int .u64 0)
noncomputable def gL4 : Goroutine := setT (nxtN Try.prog true 8 (gL3 Wg c cs x s V)) 19 (.bool false)
noncomputable def gL5 : Goroutine := setT (nxtN Try.prog true 11 (gL4 Wg c cs x s V)) 47 (.int .u64 (s + 1))
/-- Wait's frame at the compare-and-swap. -/
noncomputable def fC : Frame := hdF (nxtN Try.prog true 1 (gL5 Wg c cs x s V)).callers
/-- .. at the convert of &wg.sema. -/
noncomputable def gH1 : Goroutine := nxtN Try.prog true 15 (gor ((fC Wg c cs x s V).finish (.bool true)) (c :: cs))
noncomputable def gH2 : Goroutine := setT (nxtN Try.prog true 10 (nxt Try.prog true (putG (gH1 Wg c cs x s V) (.pointer (some ⟨Wg, 1, none⟩))))) 59 (.int .u64 0)
/-- .. at the semaphore. -/
noncomputable def gH3 : Goroutine := nxtN Try.prog true 13 (gH2 Wg c cs x s V)
/-- Wait's frame at its second load. -/
noncomputable def fS : Frame := hdF (nxtN Try.prog true 7 (putG (gH3 Wg c cs x s V) (.tuple #[]))).callers
/-- .. at the convert of wg. -/
noncomputable def gY : Goroutine := nxtN Try.prog true 3 (nxt Try.prog true (nxtN Try.prog true 7 (gor ((fS Wg c cs x s V).finish (.int .u64 0)) (c :: cs))))
set_option maxRecDepth 100000 in
theorem h1_at : AtR (gH1 Wg c cs x s V) 3 := ⟨by kernel_rfl, by kernel_rfl, by kernel_rfl, by kernel_rfl⟩
set_option maxRecDepth 100000 in
theorem y_at : AtR (gY Wg c cs x s V) 1 := ⟨by kernel_rfl, by kernel_rfl, by kernel_rfl, by kernel_rfl⟩
set_option maxRecDepth 100000 in
theorem sem_at : AtOp Try.prog (gH3 Wg c cs x s V) 4 119 (match (oG (gH3 Wg c cs x s V)).op with | .call c => c.args | _ => #[]) (match (oG (gH3 Wg c cs x s V)).op with | .call c => c.argTypes | _ => #[]) (semacquireFn link) :=
  ⟨by kernel_rfl, by kernel_rfl, by kernel_rfl, by kernel_rfl, by kernel_rfl, wgLib.f_semacquire, x_semacquire_n link, x_semacquire_b link, by kernel_rfl⟩
end

set_option maxRecDepth 100000 in
/-- Woken, it reads 0. -/
theorem o_wait_woken {s V : Int} (hP : C.P = Try.prog) (hty : C.ty = 147) (hS : C.Stable) (hn : J + 1 - C.m < 2147483600) (x : Nat → Value)
    (hnx : ∀ w, Rl S K w0 w → Joined C K J w → MFg C.P Post C.O (gor (c.finish (.tuple #[])) cs) w) : OFg C Post S K J (MoO C J 0 0) 1 (putG (gH3 C.Wg c cs x s V) (.tuple #[])) w0 := by
  have hk := kp_open (C := C) (J := J) (p := 0) (vb := 0) hS hn (by omega)
  refine .kern hS hk (n := 7) (by rw [hP]; ((repeat (refine ⟨by kernel_rfl, fun _ => by kernel_rfl, ?_⟩)); exact True.intro)) ?_
  rw [hP]
  refine .eqv (g' := gULoad C.Wg (fS C.Wg c cs x s V) (c :: cs)) (by kernel_rfl) (o_uload hP hS hn fun v hv _ => ?_)
  obtain rfl : v = 0 := by omega
  have e : ((0 : Nat) : Int) * KK = 0 := by decide
  rw [e]
  refine .kern hS hk (n := 7) (by rw [hP]; ((repeat (refine ⟨by kernel_rfl, fun _ => by kernel_rfl, ?_⟩)); exact True.intro)) ?_
  rw [hP]
  refine .say (e := mk .enable) hS hk (by kernel_rfl) (fun w => by rw [hP]; kernel_rfl) (.inr (.inr (.inr (.inl (.inr (.inl rfl)))))) (d1 := 0) rfl ?_
  rw [hP]
  refine .kern hS hk (n := 3) (by rw [hP]; ((repeat (refine ⟨by kernel_rfl, fun _ => by kernel_rfl, ?_⟩)); exact True.intro)) ?_
  rw [hP]
  refine .idle hS hk (by kernel_rfl) fun w hf => ?_
  obtain ⟨v, hv⟩ := WgLive.c0 hf.wg
  refine ⟨_, by rw [hP]; exact step_conv (y_at C.Wg c cs x s V) (s := 165) (d := 74) (t := 147) (x := .tmp 79) (by kernel_rfl) (by kernel_rfl) wgLib.underlying_tWgP wgLib.underlying_tUP wgLib.room_tWg hv, ?_⟩
  change OFg C Post S K J (MoO C J 0 0) 0 (putG (gY C.Wg c cs x s V) (.pointer (some ⟨C.Wg, 0, none⟩))) w0
  generalize hgy : putG (gY C.Wg c cs x s V) (.pointer (some ⟨C.Wg, 0, none⟩)) = gy
  refine .std (by rw [← hgy]; kernel_rfl) (OFin.acq (fr' := (nxt Try.prog true gy).frame) (cs' := (nxt Try.prog true gy).callers) hS hn (fun w _ _ => ?_) fun w h1 h2 => MFg.toF ?_)
  · rw [← hgy, hP]; kernel_rfl
  · refine .kern (n := 10) (by rw [← hgy, hP]; ((repeat (refine ⟨by kernel_rfl, fun _ => by kernel_rfl, ?_⟩)); exact True.intro)) (.eqv (g' := gor (c.finish (.tuple #[])) cs) (by rw [← hgy, hP]; kernel_rfl) (hnx w h1 h2))

set_option maxRecDepth 100000 in
/-- Registered. -/
theorem o_wait_reg {s V : Int} (hP : C.P = Try.prog) (hty : C.ty = 147) (hS : C.Stable) (hn : J + 1 - C.m < 2147483600) (x : Nat → Value) (b1 : bits .and .u64 s 2147483648 = 0)
    (hnx : ∀ w, Rl S K w0 w → Joined C K J w → MFg C.P Post C.O (gor (c.finish (.tuple #[])) cs) w) : OFg C Post S K J (MoR C J) 1 (gor ((fC C.Wg c cs x s V).finish (.bool true)) (c :: cs)) w0 := by
  have hk := kp_reg (C := C) (J := J) hS hn
  refine .kern hS hk (n := 15) (by rw [hP]; ((repeat (refine ⟨by kernel_rfl, fun _ => by kernel_rfl, ?_⟩)); exact True.intro)) ?_
  rw [hP]
  refine .idle hS hk (by kernel_rfl) fun w hf => ?_
  obtain ⟨v, hv⟩ := WgLive.c1 hf.wg
  refine ⟨_, by rw [hP]; exact step_conv (h1_at C.Wg c cs x s V) (s := 173) (d := 74) (t := 145) (x := .tmp 55) (by kernel_rfl) (by kernel_rfl) wgLib.underlying_tPU32 wgLib.underlying_tUP wgLib.room_tU32 hv, ?_⟩
  refine .say (e := mk (.write ⟨C.Wg, 1, none⟩)) hS hk (by kernel_rfl) (fun w => by rw [hP]; kernel_rfl) (.inr (.inr (.inr (.inr ⟨_, rfl, .inr (.inl rfl)⟩)))) (d1 := 1) rfl ?_
  rw [hP]
  refine .kern hS hk (n := 10) (by rw [hP]; ((repeat (refine ⟨by kernel_rfl, fun _ => by kernel_rfl, ?_⟩)); exact True.intro)) ?_
  rw [hP]
  refine .val (i := 59) (v := .int .u64 (bits .and .u64 s 2147483648)) (v' := .int .u64 0) (by kernel_rfl) (by rw [b1]) ?_
  refine .kern hS hk (n := 13) (by rw [hP]; ((repeat (refine ⟨by kernel_rfl, fun _ => by kernel_rfl, ?_⟩)); exact True.intro)) ?_
  rw [hP]
  change OFg C Post S K J (MoR C J) 1 (gH3 C.Wg c cs x s V) w0
  have e1 : gor (gH3 C.Wg c cs x s V).frame (gH3 C.Wg c cs x s V).callers = gH3 C.Wg c cs x s V := by kernel_rfl
  refine .std (by kernel_rfl) (OFin.sem (fr' := (putG (gH3 C.Wg c cs x s V) (.tuple #[])).frame) (cs' := (putG (gH3 C.Wg c cs x s V) (.tuple #[])).callers) hS hn (fun w _ ⟨st, hw⟩ => ?_) (fun w _ hw => ?_) (OFg.put (o_wait_woken hP hty hS hn x hnx)))
  · have ha := sem_at C.Wg c cs x s V
    unfold blk
    rw [e1, hP, show stepG Try.prog true (gH3 C.Wg c cs x s V) w = stepG Try.prog true (atG (gH3 C.Wg c cs x s V) 4) w by rw [← ha.eq]]
    rw [show ({ gH3 C.Wg c cs x s V with status := .blocked } : Goroutine) = { atG (gH3 C.Wg c cs x s V) 4 with status := .blocked } by rw [← ha.eq]]
    exact stepG_semacquire_wait ha.op ha.wanted ha.call ha.func ha.name ha.body ha.nx (x_semacquire_f link) (ad := smA C.Wg) (by kernel_rfl) hw.cellSm
  · have ha := sem_at C.Wg c cs x s V
    rw [e1, hP, gor_put, show stepG Try.prog true (gH3 C.Wg c cs x s V) w = stepG Try.prog true (atG (gH3 C.Wg c cs x s V) 4) w by rw [← ha.eq]]
    exact stepG_semacquire ha.op ha.wanted ha.ne ha.call ha.func ha.name ha.body ha.nx (x_semacquire_f link) (ad := smA C.Wg) (n := 1) (by kernel_rfl) hw.cellSm (by decide) (hw.thaw 1)
end

end Go.Proofs.Ytcgjppacnhmjlaa.Sim
end

section
set_option linter.unusedVariables false
set_option linter.unusedSimpArgs false
set_option linter.unusedSectionVars false
/-! Wait in company: the loop. -/
namespace Go.Proofs.Ytcgjppacnhmjlaa.Sim
open Go Go.Conc Go.ConcN Go.Conc.Lib Go.ConcR.Gen
open Go.ConcR (KK wgBlock WgAt stA smA rd wr mk Payload DC0)
set_option linter.unusedVariables false
set_option linter.unusedSectionVars false

section
variable {C : FC} {S K : Nat → Prop} {J vb d0 : Nat} {Mo : (Nat → Gh) → Int → Int → Prop} {Post : Value → World → Prop} {w0 : World} {c : Frame} {cs : List Frame}

set_option maxRecDepth 100000 in
theorem o_wait_more {v : Nat} (hP : C.P = Try.prog) (hty : C.ty = 147) (hS : C.Stable) (hn : J + 1 - C.m < 2147483600) (x : Nat → Value) (hv : v < 2147483600) (hv1 : 1 ≤ v)
    (hnx : ∀ w, Rl S K w0 w → Joined C K J w → MFg C.P Post C.O (gor (c.finish (.tuple #[])) cs) w)
    (again : ∀ x, OFg C Post S K J (MoO C J 0 (v - 1)) 1 (gULoad C.Wg (fW C.Wg c cs x) (c :: cs)) w0) : OFg C Post S K J (MoO C J 0 v) 1 (gor ((fW C.Wg c cs x).finish (.int .u64 ((v : Int) * KK))) (c :: cs)) w0 := by
  obtain ⟨V, hV⟩ : ∃ V : Int, V = (v : Int) := ⟨_, rfl⟩
  have hcas := fun (c' : Frame) => o_ucas (C := C) (S := S) (K := K) (J := J) (d0 := 1) (Post := Post) (w0 := w0) (c := c') (cs := c :: cs) (vs := v) hP hS hn hv1
  rw [← hV] at hcas ⊢
  have a1 : (V * KK).fdiv 4294967296 = V := by rw [show KK = 4294967296 from rfl]; rw [Int.fdiv_eq_ediv_of_nonneg _ (by omega)]; omega
  have b1 : bits .and .u64 (V * KK) 2147483648 = 0 := by rw [hV]; have := st_flag v 0 (by omega) (by omega); simpa [KK] using this
  have b2 : bits .and .u64 (V * KK) 2147483647 = 0 := by rw [hV]; have := st_waiters v 0 (by omega) (by omega); simpa [KK] using this
  have c1 : IntKind.i32.wrap V = V := by rw [IntKind.wrap_i32]; omega
  have c2 : IntKind.u64.wrap (V * KK + 1) = V * KK + 1 := by rw [IntKind.wrap_u64]; simp only [KK]; omega
  have q1 : decide (V = 0) = false := decide_eq_false (by omega)
  have hk := kp_open (C := C) (J := J) (p := 0) (vb := v) hS hn (by omega)
  generalize V * KK = s at a1 b1 b2 c2 hcas ⊢
  refine .kern hS hk (n := 6) (by rw [hP]; ((repeat (refine ⟨by kernel_rfl, fun _ => by kernel_rfl, ?_⟩)); exact True.intro)) ?_
  rw [hP]
  refine .val (i := 13) (v := .int .u64 (s.fdiv 4294967296)) (v' := .int .u64 V) (by kernel_rfl) (by rw [a1]) ?_
  refine .kern hS hk (n := 1) (by rw [hP]; ((repeat (refine ⟨by kernel_rfl, fun _ => by kernel_rfl, ?_⟩)); exact True.intro)) ?_
  rw [hP]
  refine .val (i := 14) (v := .int .i32 (IntKind.i32.wrap V)) (v' := .int .i32 V) (by kernel_rfl) (by rw [c1]) ?_
  refine .kern hS hk (n := 6) (by rw [hP]; ((repeat (refine ⟨by kernel_rfl, fun _ => by kernel_rfl, ?_⟩)); exact True.intro)) ?_
  rw [hP]
  refine .val (i := 16) (v := .int .u64 (bits .and .u64 s 2147483647)) (v' := .int .u64 0) (by kernel_rfl) (by rw [b2]) ?_
  refine .kern hS hk (n := 8) (by rw [hP]; ((repeat (refine ⟨by kernel_rfl, fun _ => by kernel_rfl, ?_⟩)); exact True.intro)) ?_
  rw [hP]
  refine .val (i := 19) (v := .bool (decide (V = 0))) (v' := .bool false) (by kernel_rfl) (by rw [q1]) ?_
  refine .kern hS hk (n := 11) (by rw [hP]; ((repeat (refine ⟨by kernel_rfl, fun _ => by kernel_rfl, ?_⟩)); exact True.intro)) ?_
  rw [hP]
  refine .val (i := 47) (v := .int .u64 (IntKind.u64.wrap (s + 1))) (v' := .int .u64 (s + 1)) (by kernel_rfl) (by rw [c2]) ?_
  refine .kern hS hk (n := 1) (by rw [hP]; ((repeat (refine ⟨by kernel_rfl, fun _ => by kernel_rfl, ?_⟩)); exact True.intro)) ?_
  rw [hP]
  refine .eqv (g' := gUCas C.Wg s (s + 1) (fC C.Wg c cs x s V) (c :: cs)) (by kernel_rfl) (hcas _ (o_wait_reg hP hty hS hn x b1 hnx) ?_)
  refine .kern hS (kp_open hS hn (by omega)) (n := 12) (by rw [hP]; ((repeat (refine ⟨by kernel_rfl, fun _ => by kernel_rfl, ?_⟩)); exact True.intro)) ?_
  rw [hP]
  exact .eqv (by kernel_rfl) (again (xOf (hdF (nxtN Try.prog true 12 (gor ((fC C.Wg c cs x s V).finish (.bool false)) (c :: cs))).callers)))

theorem o_wait_loop (hP : C.P = Try.prog) (hty : C.ty = 147) (hS : C.Stable) (hn : J + 1 - C.m < 2147483600)
    (hnx : ∀ w, Rl S K w0 w → Joined C K J w → MFg C.P Post C.O (gor (c.finish (.tuple #[])) cs) w) : ∀ vb x, OFg C Post S K J (MoO C J 0 vb) 1 (gULoad C.Wg (fW C.Wg c cs x) (c :: cs)) w0 := by
  intro vb
  induction vb using Nat.strongRecOn with
  | _ vb ih =>
    intro x
    refine o_uload hP hS hn fun v hvb hv => ?_
    rcases Nat.eq_zero_or_pos v with rfl | hp
    · have e : ((0 : Nat) : Int) * KK = 0 := by decide
      rw [e]
      exact o_wait_zero hP hty hS hn x hnx
    · exact o_wait_more hP hty hS hn x hv hp hnx (ih (v - 1) (by omega))

set_option maxRecDepth 100000 in
/-- ████ Wait. ████ -/
theorem o_wait (hP : C.P = Try.prog) (hty : C.ty = 147) (hS : C.Stable) (hn : J + 1 - C.m < 2147483600)
    (hnx : ∀ w, Rl S K w0 w → Joined C K J w → MFg C.P Post C.O (gor (c.finish (.tuple #[])) cs) w) : OFg C Post S K J (MoO C J 0 vb) 0 (gW C.Wg c cs) w0 := by
  have hk := kp_open (C := C) (J := J) (p := 0) (vb := vb) hS hn (by omega)
  refine .kern hS hk (n := 3) (by rw [hP]; ((repeat (refine ⟨by kernel_rfl, fun _ => by kernel_rfl, ?_⟩)); exact True.intro)) ?_
  rw [hP]
  refine .say (e := mk .disable) hS hk (by kernel_rfl) (fun w => by rw [hP]; kernel_rfl) (.inr (.inr (.inr (.inl (.inl rfl))))) (d1 := 1) rfl ?_
  rw [hP]
  refine .kern hS hk (n := 10) (by rw [hP]; ((repeat (refine ⟨by kernel_rfl, fun _ => by kernel_rfl, ?_⟩)); exact True.intro)) ?_
  rw [hP]
  exact .eqv (by kernel_rfl) (o_wait_loop hP hty hS hn hnx vb (xOf (hdF (gW1 C.Wg c cs).callers)))
end

end Go.Proofs.Ytcgjppacnhmjlaa.Sim
end
