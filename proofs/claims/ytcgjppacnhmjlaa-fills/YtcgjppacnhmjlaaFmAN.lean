/- Own texts: FwG, FwH, FwI, FwJ. -/
import Derived.Test.YtcgjppacnhmjlaaFmAM
import Derived.Conc.EventLaws
import Derived.Conc.WgGenN2
import Derived.Orders
import Derived.Conc.CompanyDraw

section
set_option linter.unusedVariables false
set_option linter.unusedSimpArgs false
set_option linter.unusedSectionVars false
/-! Operations that look at the world. -/
namespace Go.Proofs.Ytcgjppacnhmjlaa.Sim
open Go Go.Conc Go.ConcN Go.Conc.Lib Go.ConcR.Gen
open Go.ConcR (KK wgBlock WgAt stA smA rd wr mk Payload DC0)
set_option linter.unusedVariables false
set_option linter.unusedSectionVars false
set_option linter.unusedSimpArgs false

section
variable {P : Program} {g : Goroutine} {i : Nat} {w w' : World} {main : Bool} {ev : Operand → Value} {o : Oper} {t : TypeId} {x y : Operand} {a : Addr} {v u : Value}

theorem ex_load (hop : o.op = .load t x) (hx : ev x = .pointer (some a)) (hg : (isAgg t).run P w = .ok false w) (hc : w.cell? a = some v) :
    (execOp ev o).run P w = .ok (.value v) w ∧ (execOp ev o).events P w #[] = #[⟨.cell a, false, false⟩] := by
  constructor
  · simp [execOp, hop, hx, go_sem, Instr.loadAt, loadVar, hg, hc]
  · simp [execOp, hop, hx, go_sem, Instr.loadAt, loadVar, hg, hc, Result.evThen]
theorem ex_store (hop : o.op = .store t x y) (hx : ev x = .pointer (some a)) (hy : ev y = v) (hv : v.oneCell' = true) (hs : (sizeOf t).run P w = .ok 1 w) (hc : w.cell? a = some u) (hz : w.frozen? a = false) :
    (execOp ev o).run P w = .ok .skip (w.setCell a v) ∧ (execOp ev o).events P w #[] = #[⟨.cell a, true, false⟩] := by
  have hcs : v.cells = #[v] := by cases v <;> first | rfl | cases hv
  have ha : a.add 0 = a := by
    obtain ⟨b, k, sp⟩ := a
    cases sp with
    | none => rfl
    | some q =>
      simp only [World.cell?] at hc
      split at hc <;> simp at hc
  have h1 : (storeVar t a v).run P w = .ok () (w.setCell a v) := by
    unfold storeVar; rw [hcs]
    simp [hs, storeCells, ha, hc, hz, run_store P w a v .plain hv, Result.andThen]
  have h2 : ∀ es, (storeVar t a v).events P w es = es.push ⟨.cell a, true, false⟩ := by
    intro es
    unfold storeVar; rw [hcs]
    simp [hs, storeCells, ha, hc, hz, run_store P w a v .plain hv, events_store P w _ a v .plain hv, Result.evThen]
    rfl
  constructor
  · simp [execOp, hop, hx, hy, Instr.storeAt, Instr.sureAddr, h1, Result.andThen]
  · simp [execOp, hop, hx, hy, Instr.storeAt, Instr.sureAddr, h2, Result.evThen]
theorem ex_index {e : TypeId} {l c n : Nat} {k : Int} (hop : o.op = .indexAddr t x y) (hx : ev x = .slice (some a) l c) (hy : ev y = .int .i64 k) (hk : 0 ≤ k ∧ k < l) (hu : (underlying t).run P w = .ok (.slice e) w) (hs : (sizeOf e).run P w = .ok n w) :
    (execOp ev o).run P w = .ok (.value (.pointer (some (a.add (k.toNat * n))))) w ∧ (execOp ev o).events P w #[] = #[] := by
  constructor
  · simp [execOp, hop, hx, hy, go_sem, Instr.indexAt, asIntOf, hu, hs, hk]
  · simp [execOp, hop, hx, hy, go_sem, Instr.indexAt, asIntOf, hu, hs, hk, Result.evThen]
theorem seen_cell (P : Program) (fn : FuncId) (e : Event) : ∀ e' ∈ seen P fn #[e], e' = e := fun e' he => by
  have := seen_mem he
  simpa using this
theorem step_ld (h : AtR g i) (hop : (oG g).op = .load t x) (hx : (aG g).eval x = .pointer (some a)) (hg : (isAgg t).run P w = .ok false w) (hc : w.cell? a = some v) : stepG P main g w = .go (putG g v) w (seen P g.frame.fn #[⟨.cell a, false, false⟩]) := by
  obtain ⟨h1, h2⟩ := ex_load (P := P) (w := w) hop hx hg hc
  rw [step_value h h1]
  unfold listed
  rw [h2]
theorem step_st (h : AtR g i) (hop : (oG g).op = .store t x y) (hx : (aG g).eval x = .pointer (some a)) (hy : (aG g).eval y = v) (hv : v.oneCell' = true) (hs : (sizeOf t).run P w = .ok 1 w) (hc : w.cell? a = some u) (hz : w.frozen? a = false) : stepG P main g w = .go (putG g undef) (w.setCell a v) (seen P g.frame.fn #[⟨.cell a, true, false⟩]) := by
  obtain ⟨h1, h2⟩ := ex_store (P := P) (w := w) hop hx hy hv hs hc hz
  rw [step_none h h1]
  unfold listed
  rw [h2]
theorem step_ix {e : TypeId} {l c n : Nat} {k : Int} (h : AtR g i) (hop : (oG g).op = .indexAddr t x y) (hx : (aG g).eval x = .slice (some a) l c) (hy : (aG g).eval y = .int .i64 k) (hk : 0 ≤ k ∧ k < l) (hu : (underlying t).run P w = .ok (.slice e) w) (hs : (sizeOf e).run P w = .ok n w) : stepG P main g w = .go (putG g (.pointer (some (a.add (k.toNat * n))))) w #[] := by
  obtain ⟨h1, h2⟩ := ex_index (P := P) (w := w) hop hx hy hk hu hs
  rw [step_value h h1]
  unfold listed
  rw [h2, seen_none]
end

section
variable {C : FC} {S L : Nat → Prop} {J vb d0 : Nat} {Mo : (Nat → Gh) → Int → Int → Prop} {Post : Value → World → Prop} {w0 w w' : World} {g : Goroutine} {i : Nat} {t : TypeId} {x y : Operand} {a : Addr} {v u : Value}
def addB (L : Nat → Prop) (n : Nat) : Nat → Prop := fun b => L b ∨ b = n
def newB (w : World) (o : Obj) : World := { w with heap := w.heap.push o }
theorem grow_new (L : Nat → Prop) (w : World) (o : Obj) : grow L w (newB w o) = addB L w.heap.size := by
  funext b
  simp only [grow, addB, newB, Array.size_push, eq_iff_iff]
  constructor
  · rintro (h | ⟨h1, h2⟩)
    · exact .inl h
    · exact .inr (by omega)
  · rintro (h | h)
    · exact .inl h
    · exact .inr (by omega)
theorem newB_old (w : World) (o : Obj) {b : Nat} (h : b < w.heap.size) : (newB w o).heap[b]? = w.heap[b]? := by
  simp only [newB]
  rw [Array.getElem?_push, if_neg (by omega)]
theorem newB_new (w : World) (o : Obj) : (newB w o).heap[w.heap.size]? = some o := by simp only [newB]; rw [Array.getElem?_push, if_pos rfl]
theorem Rl.cell (h : Rl S L w w') {a : Addr} {v : Value} (hL : L a.block) (hc : w.cell? a = some v) : w'.cell? a = some v := by
  unfold World.cell? at hc ⊢
  split at hc
  · rename_i c e f hb
    obtain ⟨f1, h1⟩ := h.same _ hL c e f hb
    rw [h1]; exact hc
  · cases hc
theorem deaf_cell {P : Program} {fn : FuncId} {a : Addr} {wr : Bool} (d : Nat) : deafBehind d (seen P fn #[⟨.cell a, wr, false⟩]) = d :=
  deafBehind_still (fun e he => by
    have := seen_cell P fn _ e he
    subst this
    simp) d

/-- Goroutine 0 makes a block. -/
theorem OFg.new (hS : C.Stable) (hk : Kp C J Mo) (hrun : g.status = .running) (o : Obj) (gn : Nat → Goroutine) (h : ∀ w, stepG C.P true g w = .go (gn w.heap.size) (newB w o) #[])
    (hn : ∀ w, Rl S L w0 w → C.Wf w → (∀ b, L b → b < w.heap.size ∧ ¬ C.O b) → OFg C Post S (addB L w.heap.size) J Mo d0 (gn w.heap.size) (newB w o)) : OFg C Post S L J Mo d0 g w0 := by
  refine .step hS hk hrun fun w hr hf hL => ⟨_, _, #[], h w, ⟨by simp [newB], fun b hb _ _ => newB_old w o hb⟩, ?_, fun e he => by simp at he, ?_⟩
  · obtain ⟨st, sm, hw⟩ := hf.wg
    exact newB_old w o (Array.getElem?_eq_some_iff.1 hw).1
  · rw [grow_new]
    exact hn w hr hf hL
/-- It loads. -/
theorem OFg.ld (hS : C.Stable) (hk : Kp C J Mo) (hrun : g.status = .running) (h : AtR g i) (hop : (oG g).op = .load t x) (hx : (aG g).eval x = .pointer (some a)) (hg : ∀ w, (isAgg t).run C.P w = .ok false w) (hL : L a.block) (hc : w0.cell? a = some v)
    (hn : OFg C Post S L J Mo d0 (putG g v) w0) : OFg C Post S L J Mo d0 g w0 := by
  refine .look hS hk hrun (fun w hr hf => ⟨_, step_ld h hop hx (hg w) (hr.cell hL hc), fun e he => ?_, deaf_cell _⟩) hn
  have := seen_cell _ _ _ e he
  subst this
  exact .inl ⟨a, rfl, hL, fun h => by cases h⟩
/-- It stores. -/
theorem OFg.st (hS : C.Stable) (hk : Kp C J Mo) (hrun : g.status = .running) (h : AtR g i) (hop : (oG g).op = .store t x y) (hx : (aG g).eval x = .pointer (some a)) (hy : (aG g).eval y = v) (hv : v.oneCell' = true) (hs : ∀ w, (sizeOf t).run C.P w = .ok 1 w) (hL : L a.block) (hSb : ¬ S a.block) (hW : a.block ≠ C.Wg) (hc : w0.cell? a = some u) (hz : w0.frozen? a = false)
    (hn : ∀ w, Rl S L w0 w → OFg C Post S L J Mo d0 (putG g undef) (w.setCell a v)) : OFg C Post S L J Mo d0 g w0 := by
  refine .step hS hk hrun fun w hr hf hLO => ?_
  have hb := hr.exact _ hL hSb
  have hc' : w.cell? a = some u := by unfold World.cell? at hc ⊢; rw [hb]; exact hc
  have hz' : w.frozen? a = false := by unfold World.frozen? at hz ⊢; rw [hb]; exact hz
  have has := aside_setCell w a v
  refine ⟨_, _, _, step_st h hop hx hy hv (hs w) hc' hz', ⟨by rw [has.size]; exact Nat.le_refl _, fun b hb hor hne => has.block b fun e => ?_⟩, has.block _ (Ne.symm hW), fun e he => ?_, ?_⟩
  · subst e
    rcases hor with h | h
    · exact h hL
    · exact hSb h
  · have := seen_cell _ _ _ e he
    subst this
    rw [grow_set]
    exact .inl ⟨a, rfl, hL, fun _ => hSb⟩
  · rw [grow_set, deaf_cell]
    exact hn w hr
/-- It looks an address up. -/
theorem OFg.ix {e : TypeId} {l c n : Nat} {k : Int} (hS : C.Stable) (hk : Kp C J Mo) (hrun : g.status = .running) (h : AtR g i) (hop : (oG g).op = .indexAddr t x y) (hx : (aG g).eval x = .slice (some a) l c) (hy : (aG g).eval y = .int .i64 k) (hkl : 0 ≤ k ∧ k < l) (hu : ∀ w, (underlying t).run C.P w = .ok (.slice e) w) (hs : ∀ w, (sizeOf e).run C.P w = .ok n w)
    (hn : OFg C Post S L J Mo d0 (putG g (.pointer (some (a.add (k.toNat * n))))) w0) : OFg C Post S L J Mo d0 g w0 :=
  .idle hS hk hrun fun w hf => ⟨_, step_ix h hop hx hy hkl (hu w) (hs w), hn⟩
end

end Go.Proofs.Ytcgjppacnhmjlaa.Sim
end

section
set_option linter.unusedVariables false
set_option linter.unusedSimpArgs false
set_option linter.unusedSectionVars false
/-! Go: a worker is started. -/
namespace Go.Proofs.Ytcgjppacnhmjlaa.Sim
open Go Go.Conc Go.ConcN Go.Conc.Lib Go.ConcR.Gen
open Go.ConcR (KK wgBlock WgAt stA smA rd wr mk Payload DC0)
set_option linter.unusedVariables false
set_option linter.unusedSectionVars false
set_option linter.unusedSimpArgs false

abbrev ptr (b : Nat) : Value := .pointer (some ⟨b, 0, none⟩)
/-- The closure that Go is given: the boxes of part, trees, i, errnos. -/
abbrev fvv (b8 b4 b7 b5 : Nat) : Value := .func (.func 86) #[] #[ptr b8, ptr b4, ptr b7, ptr b5]

noncomputable def spwn (P : Program) (g : Goroutine) : Goroutine × Goroutine := match stepG P true g default with | .spawn g1 c _ _ => (g1, c) | _ => (g, g)

section
variable (Wg b8 b4 b7 b5 : Nat) (c : Frame) (cs : List Frame) (B1 B2 : Nat)
noncomputable abbrev gG : Goroutine := gor (Frame.enter Try.prog 85 #[pwg Wg, fvv b8 b4 b7 b5] .normal) (c :: cs)
noncomputable def gG1 : Goroutine := putG (nxtN Try.prog true 2 (gG Wg b8 b4 b7 b5 c cs)) (ptr B1)
noncomputable def gG2 : Goroutine := putG (gG1 Wg b8 b4 b7 b5 c cs B1) (ptr B2)
noncomputable def gG3 : Goroutine := nxtN Try.prog true 3 (gG2 Wg b8 b4 b7 b5 c cs B1 B2)
/-- Go's frame at its call of Add. -/
noncomputable def fG : Frame := hdF (nxtN Try.prog true 1 (putG (gG3 Wg b8 b4 b7 b5 c cs B1 B2) (pwg Wg))).callers
/-- .. at the go statement. -/
noncomputable def gG4 : Goroutine := nxtN Try.prog true 3 (gor ((fG Wg b8 b4 b7 b5 c cs B1 B2).finish (.tuple #[])) (c :: cs))
set_option maxRecDepth 100000 in
theorem g3_at : AtR (gG3 Wg b8 b4 b7 b5 c cs B1 B2) 0 := ⟨by kernel_rfl, by kernel_rfl, by kernel_rfl, by kernel_rfl⟩
end
/-- The worker that is born. -/
noncomputable def kid (B1 B2 : Nat) : Goroutine := (spwn Try.prog (gG4 0 0 0 0 0 (Frame.enter Try.prog 0 #[] .normal) [] B1 B2)).2

section
variable {C : FC} {S L : Nat → Prop} {J vb d0 : Nat} {Mo : (Nat → Gh) → Int → Int → Prop} {Post : Value → World → Prop} {w0 w w' : World} {c : Frame} {cs : List Frame}

theorem rl_new (hL : ∀ b, L b → b < w.heap.size) (o : Obj) : Rl S L w (newB w o) := ⟨by simp [newB], fun b hb => .of_eq (newB_old w o (hL b hb)), fun b hb _ => newB_old w o (hL b hb), rfl, rfl⟩
theorem cell_new {w : World} {v : Value} {t : TypeId} : (newB w (.cells #[v] t)).cell? ⟨w.heap.size, 0, none⟩ = some v := by
  simp [World.cell?, newB_new]
theorem cell_newB {w : World} {o : Obj} {a : Addr} {v : Value} (h : w.cell? a = some v) : (newB w o).cell? a = some v := by
  have hlt : a.block < w.heap.size := by
    unfold World.cell? at h
    split at h
    · rename_i hb; exact (Array.getElem?_eq_some_iff.1 hb).1
    · cases h
  unfold World.cell? at h ⊢
  rw [newB_old w o hlt]; exact h

set_option maxRecDepth 100000 in
theorem o_go {b8 b4 b7 b5 : Nat} {ro : Nat → Prop} (hP : C.P = Try.prog) (hty : C.ty = 147) (hS : C.Stable) (hn2 : J + 2 - C.m < 2147483600) (hro : ∀ b, ro b → L b)
    (hwk : ∀ B1 B2 w, Rl S L w0 w → C.Wf w → ¬ L B1 → ¬ L B2 → (B1 ≠ C.T ∧ B1 ≠ C.E ∧ B2 ≠ C.T ∧ B2 ≠ C.E) → w.cell? ⟨B1, 0, none⟩ = some (pwg C.Wg) → w.cell? ⟨B2, 0, none⟩ = some (fvv b8 b4 b7 b5) →
      CoG C.P { T := C.T, E := C.E, i := J + 1 - C.m, part := fun b => ro b ∨ b = B1 ∨ b = B2 } (C.pr (J + 1)) (fun _ => False) (kid B1 B2) w)
    (hnx : ∀ B1 B2 w1, Rl S L w0 w1 → ¬ L B1 → ¬ L B2 → (B1 ≠ C.T ∧ B1 ≠ C.E ∧ B2 ≠ C.T ∧ B2 ≠ C.E) → OFg C Post (fun b => S b ∨ (ro b ∨ b = B1 ∨ b = B2)) (addB (addB L B1) B2) (J + 1) (MoO C (J + 1) 0 (vb + 1)) 0 (gor (c.finish (.tuple #[])) cs) w1) :
    OFg C Post S L J (MoO C J 0 vb) 0 (gG C.Wg b8 b4 b7 b5 c cs) w0 := by
  have hn : J + 1 - C.m < 2147483600 := by omega
  have hk := kp_open (C := C) (J := J) (p := 0) (vb := vb) hS hn (by omega)
  have hk1 := kp_open (C := C) (J := J) (p := 1) (vb := vb) hS hn (by omega)
  refine .kern hS hk (n := 2) (by rw [hP]; ((repeat (refine ⟨by kernel_rfl, fun _ => by kernel_rfl, ?_⟩)); exact True.intro)) ?_
  rw [hP]
  refine .new hS hk (by kernel_rfl) (.cells #[pwg C.Wg] 165) (fun n => gG1 C.Wg b8 b4 b7 b5 c cs n) (fun w => by rw [hP]; kernel_rfl) fun w1 hr1 hf1 hL1 => ?_
  generalize hB1 : w1.heap.size = B1
  refine .new hS hk (by kernel_rfl) (.cells #[fvv b8 b4 b7 b5] 1) (fun n => gG2 C.Wg b8 b4 b7 b5 c cs B1 n) (fun w => by rw [hP]; kernel_rfl) fun w2 hr2 hf2 hL2 => ?_
  generalize hB2 : w2.heap.size = B2
  have c1 : w2.cell? ⟨B1, 0, none⟩ = some (pwg C.Wg) := hr2.cell (.inr rfl) (by rw [← hB1]; exact cell_new)
  have hlt : B1 < B2 := by have := (hL2 B1 (.inr rfl)).1; omega
  have hr02 : Rl S L w0 w2 := ⟨by have := hr1.size; have := hr2.size; simp only [newB, Array.size_push] at this; omega, fun b hb => ((hr1.same b hb).trans (.of_eq (newB_old w1 _ (hL1 b hb).1))).trans (hr2.same b (.inl hb)), fun b hb hs => (hr2.exact b (.inl hb) hs).trans ((newB_old w1 _ (hL1 b hb).1).trans (hr1.exact b hb hs)), hr2.os.trans hr1.os, hr2.output.trans hr1.output⟩
  have hr03 : ∀ o, Rl S L w0 (newB w2 o) := fun o => hr02.trans (rl_new (fun b hb => (hL2 b (.inl hb)).1) o)
  have d1 : (newB w2 (.cells #[fvv b8 b4 b7 b5] 1)).cell? ⟨B1, 0, none⟩ = some (pwg C.Wg) := cell_newB c1
  have d2 : (newB w2 (.cells #[fvv b8 b4 b7 b5] 1)).cell? ⟨B2, 0, none⟩ = some (fvv b8 b4 b7 b5) := by rw [← hB2]; exact cell_new
  have hr3 := hr03 (.cells #[fvv b8 b4 b7 b5] 1)
  have n1 : ¬ L B1 := fun h => by have := (hL1 B1 h).1; omega
  have n2 : ¬ L B2 := fun h => by have := (hL2 B2 (.inl h)).1; omega
  have nTE : B1 ≠ C.T ∧ B1 ≠ C.E ∧ B2 ≠ C.T ∧ B2 ≠ C.E := by
    obtain ⟨_, t1, _⟩ := hf1.T
    obtain ⟨_, _, _, e1, _⟩ := hf1.E
    have := (Array.getElem?_eq_some_iff.1 t1).1
    have := (Array.getElem?_eq_some_iff.1 e1).1
    omega
  generalize newB w2 (.cells #[fvv b8 b4 b7 b5] 1) = w3 at d1 d2 hr3
  refine .kern hS hk (n := 3) (by rw [hP]; ((repeat (refine ⟨by kernel_rfl, fun _ => by kernel_rfl, ?_⟩)); exact True.intro)) ?_
  rw [hP]
  refine .ld hS hk (by kernel_rfl) (g3_at C.Wg b8 b4 b7 b5 c cs B1 B2) (t := 165) (x := .tmp 2) (a := ⟨B1, 0, none⟩) (v := pwg C.Wg) (by kernel_rfl) (by kernel_rfl) (by rw [hP]; exact Try.isAgg165) (.inl (.inr rfl)) d1 ?_
  refine .kern hS hk (n := 1) (by rw [hP]; ((repeat (refine ⟨by kernel_rfl, fun _ => by kernel_rfl, ?_⟩)); exact True.intro)) ?_
  rw [hP]
  refine .eqv (g' := gA C.Wg (fG C.Wg b8 b4 b7 b5 c cs B1 B2) (c :: cs)) (by kernel_rfl) (o_add hP hty hS hn ?_)
  refine .kern hS hk1 (n := 3) (by rw [hP]; ((repeat (refine ⟨by kernel_rfl, fun _ => by kernel_rfl, ?_⟩)); exact True.intro)) ?_
  rw [hP]
  refine .std (by kernel_rfl) (OFin.spawn (fr' := (spwn Try.prog (gG4 C.Wg b8 b4 b7 b5 c cs B1 B2)).1.frame) (cs' := (spwn Try.prog (gG4 C.Wg b8 b4 b7 b5 c cs B1 B2)).1.callers) (ro := fun b => ro b ∨ b = B1 ∨ b = B2) hS hn (fun w hr hf => ⟨kid B1 B2, ?_, ?_⟩) ?_ (OFg.toF ?_))
  · rw [hP]; kernel_rfl
  · exact hwk B1 B2 w (hr3.trans ⟨hr.size, fun b hb => hr.same b (.inl (.inl hb)), fun b hb => hr.exact b (.inl (.inl hb)), hr.os, hr.output⟩) hf n1 n2 nTE (hr.cell (.inl (.inr rfl)) d1) (hr.cell (.inr rfl) d2)
  · rintro b (h | rfl | rfl)
    · exact .inl (.inl (hro b h))
    · exact .inl (.inr rfl)
    · exact .inr rfl
  · have hk2 := kp_open (C := C) (J := J + 1) (p := 0) (vb := vb + 1) hS (by omega) (by omega)
    refine .kern hS hk2 (n := 3) (by rw [hP]; ((repeat (refine ⟨by kernel_rfl, fun _ => by kernel_rfl, ?_⟩)); exact True.intro)) ?_
    exact .eqv (by rw [hP]; kernel_rfl) (hnx B1 B2 w3 hr3 n1 n2 nTE)
end

end Go.Proofs.Ytcgjppacnhmjlaa.Sim
end

section
set_option linter.unusedVariables false
set_option linter.unusedSimpArgs false
set_option linter.unusedSectionVars false
/-! A worker's end: Done. -/
namespace Go.Proofs.Ytcgjppacnhmjlaa.Sim
open Go Go.Conc Go.ConcN Go.Conc.Lib Go.ConcR.Gen
open Go.ConcR (KK wgBlock WgAt stA smA rd wr mk Payload DC0)
set_option linter.unusedVariables false
set_option linter.unusedSectionVars false
set_option linter.unusedSimpArgs false

section
variable {P : Program} {R : World → World → Prop} {D : World → World → Array Event → Prop} {Stop : Goroutine → World → Prop}
theorem goes_step_in {n : Nat} {g g' : Goroutine} {w w1 : World} {es : Array Event} (hR : R w w1) (hs : ¬ Stop g w1) (h : Goes P false R D Stop n g w) (hst : stepG P false g w1 = .go g' w1 es) : ∃ n', D w1 w1 es ∧ Goes P false R D Stop n' g' w1 := by
  cases n with
  | zero => exact absurd (h w1 hR) hs
  | succ n =>
    rcases h with h | ⟨_, h⟩
    · exact absurd (h w1 hR) hs
    · have := h w1 hR
      rw [hst, goes_go] at this
      exact ⟨n, this⟩
/-- Along steps that look at nothing. -/
theorem goes_strict (hrefl : ∀ w, R w w) (hStop : ∀ g w, Stop g w → ∃ g' e, stepG P false g w = .go g' w #[e]) : ∀ {m : Nat} {g : Goroutine} {n k : Nat} {w : World}, Idle P false m g → Goes P false R D Stop n g w →
    (∀ n' w1, (R w w1) → Goes P false R D Stop n' (nxtN P false m g) w1 → Goes P false R DC0 Stop k (nxtN P false m g) w1) → (∀ a b c, R a b → R b c → R a c) → Goes P false R DC0 Stop (k + m) g w
  | 0, g, n, k, w, _, h, hk, _ => by
    have := hk n w (hrefl w)
    unfold nxtN at this
    exact this h
  | m + 1, g, n, k, w, hi, h, hk, tr => by
    have hno : ∀ w1, ¬ Stop g w1 := fun w1 hs => by
      obtain ⟨g', e, h1⟩ := hStop g w1 hs
      rw [hi.2.1 w1] at h1
      cases h1
    refine .inr ⟨hi.1, fun w1 h1 => ?_⟩
    rw [hi.2.1 w1, goes_go]
    obtain ⟨n', _, h2⟩ := goes_step_in h1 (hno w1) h (hi.2.1 w1)
    refine ⟨⟨rfl, rfl⟩, goes_strict hrefl hStop (m := m) hi.2.2 h2 (fun n'' w2 h3 h4 => ?_) tr⟩
    have := hk n'' w2 (tr _ _ _ h1 h3)
    unfold nxtN at this
    exact this h4
/-- Such steps lead it on. -/
theorem goes_on (hrefl : ∀ w, R w w) (hStop : ∀ g w, Stop g w → ∃ g' e, stepG P false g w = .go g' w #[e]) : ∀ {m : Nat} {g : Goroutine} {n : Nat} {w : World}, Idle P false m g → Goes P false R D Stop n g w → ∃ n', Goes P false R D Stop n' (nxtN P false m g) w
  | 0, g, n, w, _, h => ⟨n, by unfold nxtN; exact h⟩
  | m + 1, g, n, w, hi, h => by
    have hno : ¬ Stop g w := fun hs => by
      obtain ⟨g', e, h1⟩ := hStop g w hs
      rw [hi.2.1 w] at h1
      cases h1
    obtain ⟨n', _, h2⟩ := goes_step_in (hrefl w) hno h (hi.2.1 w)
    obtain ⟨n'', h3⟩ := goes_on hrefl hStop hi.2.2 h2
    exact ⟨n'', by unfold nxtN; exact h3⟩
end

section
variable (Wg B1 B2 b8 b4 b7 b5 : Nat)
/-- The worker at the load of its function. -/
noncomputable def gK1 : Goroutine := nxtN Try.prog false 7 (kid B1 B2)
/-- .. at the entry of its function. -/
noncomputable def gK2 : Goroutine := nxtN Try.prog false 1 (putG (gK1 B1 B2) (fvv b8 b4 b7 b5))
noncomputable def cK : Frame := hdF (gK2 B1 B2 b8 b4 b7 b5).callers
noncomputable def csK : List Frame := tlF (gK2 B1 B2 b8 b4 b7 b5).callers
/-- .. at the load of the group's address. -/
noncomputable def gK3 : Goroutine := nxtN Try.prog false 17 (gor ((cK B1 B2 b8 b4 b7 b5).finish (.tuple #[])) (csK B1 B2 b8 b4 b7 b5))
/-- .. at the entry of Add(-1). -/
noncomputable def gK4 : Goroutine := nxtN Try.prog false 4 (putG (gK3 B1 B2 b8 b4 b7 b5) (pwg Wg))
noncomputable def cN : Frame := hdF (gK4 Wg B1 B2 b8 b4 b7 b5).callers
noncomputable def csN : List Frame := tlF (gK4 Wg B1 B2 b8 b4 b7 b5).callers
/-- .. at the convert. -/
noncomputable def gK5 : Goroutine := nxtN Try.prog false 11 (gK4 Wg B1 B2 b8 b4 b7 b5)
/-- .. at its release. -/
noncomputable def gK6 : Goroutine := putG (gK5 Wg B1 B2 b8 b4 b7 b5) (pwg Wg)

set_option maxRecDepth 100000 in
theorem k5_at : AtR (gK5 Wg B1 B2 b8 b4 b7 b5) 1 := ⟨by kernel_rfl, by kernel_rfl, by kernel_rfl, by kernel_rfl⟩
set_option maxRecDepth 100000 in
theorem k_quits : QuitsD Try.prog 8 0 (gor ((cN Wg B1 B2 b8 b4 b7 b5).finish (.tuple #[])) (csN Wg B1 B2 b8 b4 b7 b5)) := by
  have := quits_kern (P := Try.prog) (n := 8) (q := 0) (d := 0) (g := gor ((cN Wg B1 B2 b8 b4 b7 b5).finish (.tuple #[])) (csN Wg B1 B2 b8 b4 b7 b5)) (by ((repeat (refine ⟨by kernel_rfl, fun _ => by kernel_rfl, ?_⟩)); exact True.intro)) ⟨by kernel_rfl, rfl⟩
  exact this

/-- A frame that waits for a call's end, in pieces. -/
def opsF (c : Frame) : Array Oper := match c.todo with | .inRegion ops _ :: _ => ops | _ => #[]
def iF (c : Frame) : Nat := match c.todo with | .inRegion _ (i :: _) :: _ => i | _ => 0
def restF (c : Frame) : List Nat := match c.todo with | .inRegion _ (_ :: r) :: _ => r | _ => []
def kF (c : Frame) : List Item := match c.todo with | _ :: k => k | _ => []

set_option maxRecDepth 100000 in
theorem k_lib [Payload] {T n k : Nat} {val : Value} (w : World) (hK : WgLive 147 Wg w ∧ Has T (k - 1) val w) :
    Goes Try.prog false (RW 147 Wg T n 0 (k - 1)) (DWs Wg (fun _ _ => False) (fun _ _ => False) T n k) (AtR0 Try.prog 147 Wg T n 0 k val) 20 (gK4 Wg B1 B2 b8 b4 b7 b5) w := by
  have key : ∀ g, g = gK4 Wg B1 B2 b8 b4 b7 b5 → Goes Try.prog false (RW 147 Wg T n 0 (k - 1)) (DWs Wg (fun _ _ => False) (fun _ _ => False) T n k) (AtR0 Try.prog 147 Wg T n 0 k val) 20 g w → Goes Try.prog false (RW 147 Wg T n 0 (k - 1)) (DWs Wg (fun _ _ => False) (fun _ _ => False) T n k) (AtR0 Try.prog 147 Wg T n 0 k val) 20 (gK4 Wg B1 B2 b8 b4 b7 b5) w := fun g e h => e ▸ h
  generalize hc : cN Wg B1 B2 b8 b4 b7 b5 = c
  generalize hcs : csN Wg B1 B2 b8 b4 b7 b5 = cs
  have hq := k_quits Wg B1 B2 b8 b4 b7 b5
  have hT : QuitsD Try.prog 8 0 (G (c.at ((⟨c.tmps, c.defers⟩ : Act).put (((opsF c)[iF c]?).bind (·.dst)) (.tuple #[])) (.inRegion (opsF c) (restF c) :: kF c)) cs) := by
    have e : G (c.at ((⟨c.tmps, c.defers⟩ : Act).put (((opsF c)[iF c]?).bind (·.dst)) (.tuple #[])) (.inRegion (opsF c) (restF c) :: kF c)) cs = gor ((cN Wg B1 B2 b8 b4 b7 b5).finish (.tuple #[])) (csN Wg B1 B2 b8 b4 b7 b5) := by
      rw [← hc, ← hcs]; kernel_rfl
    rw [e]; exact hq
  have := Go.ConcN.Gen.addNegN (L := link) (P := Try.prog) wgLib (Own := fun _ _ => False) (Rd := fun _ _ => False) (Wg := Wg) (C := T) (n := n) (Low := 0) (k := k) (val := val) (b₀ := c) (a₀ := ⟨c.tmps, c.defers⟩) (ops₀ := opsF c) (i₀ := iF c) (rest₀ := restF c) (k₀ := kF c) (cs := cs) hT w hK
  refine key _ ?_ this
  rw [← hc, ← hcs]
  kernel_rfl
end

section
variable {C : FC} {x : Nat} {v : Value} {w : World} {B1 B2 b8 b4 b7 b5 : Nat}
theorem r0_lists {P : Program} {ty : TypeId} {Wg T n Low k : Nat} {val : Value} {g : Goroutine} {w : World} (h : AtR0 P ty Wg T n Low k val g w) : ∃ g', stepG P false g w = .go g' w #[mk (.releaseMerge (stA Wg))] := let ⟨_, _, g', h1, _⟩ := h; ⟨g', h1⟩

set_option maxRecDepth 100000 in
/-- ████ It has worked: what is left is Done. ████ -/
theorem pre_done (hP : C.P = Try.prog) (hty : C.ty = 147) (hf : C.Wf w) (hv : Has C.T (x - C.m) v w) : ∃ k, C.pre x v k (gK4 C.Wg B1 B2 b8 b4 b7 b5) w := by
  have hlive := hf.wg
  rw [hty] at hlive
  have h0 := k_lib C.Wg B1 B2 b8 b4 b7 b5 (T := C.T) (n := C.n) (k := x - C.m + 1) (val := v) w ⟨hlive, hv⟩
  have hrefl : ∀ w, RW 147 C.Wg C.T C.n 0 (x - C.m + 1 - 1) w w := fun w => RW.refl' ..
  have htr : ∀ a b c, RW 147 C.Wg C.T C.n 0 (x - C.m + 1 - 1) a b → RW 147 C.Wg C.T C.n 0 (x - C.m + 1 - 1) b c → RW 147 C.Wg C.T C.n 0 (x - C.m + 1 - 1) a c := fun _ _ _ => RW.trans'
  have hStop : ∀ g w, AtR0 Try.prog 147 C.Wg C.T C.n 0 (x - C.m + 1) v g w → ∃ g' e, stepG Try.prog false g w = .go g' w #[e] := fun g w h => let ⟨g', h1⟩ := r0_lists h; ⟨g', _, h1⟩
  have goal : Goes Try.prog false (RW 147 C.Wg C.T C.n 0 (x - C.m + 1 - 1)) DC0 (AtR0 Try.prog 147 C.Wg C.T C.n 0 (x - C.m + 1) v) (1 + 11) (gK4 C.Wg B1 B2 b8 b4 b7 b5) w := by
    refine goes_strict hrefl hStop (m := 11) (by ((repeat (refine ⟨by kernel_rfl, fun _ => by kernel_rfl, ?_⟩)); exact True.intro)) h0 (fun n1 w1 r1 h1 => ?_) htr
    change Goes Try.prog false _ DC0 _ 1 (gK5 C.Wg B1 B2 b8 b4 b7 b5) w1
    change Goes Try.prog false _ _ _ n1 (gK5 C.Wg B1 B2 b8 b4 b7 b5) w1 at h1
    refine .inr ⟨by kernel_rfl, fun w2 r2 => ?_⟩
    obtain ⟨u, hu⟩ := WgLive.c0 (r2.live (r1.live hlive))
    have hst : stepG Try.prog false (gK5 C.Wg B1 B2 b8 b4 b7 b5) w2 = .go (gK6 C.Wg B1 B2 b8 b4 b7 b5) w2 #[] := step_conv (k5_at C.Wg B1 B2 b8 b4 b7 b5) (s := 165) (d := 74) (t := 147) (x := .tmp 11) (by kernel_rfl) (by kernel_rfl) wgLib.underlying_tWgP wgLib.underlying_tUP wgLib.room_tWg hu
    rw [hst, goes_go]
    refine ⟨⟨rfl, rfl⟩, ?_⟩
    obtain ⟨n2, _, h2⟩ := goes_step_in r2 (fun hs => by obtain ⟨g', e⟩ := r0_lists hs; rw [hst] at e; cases e) h1 hst
    intro w3 r3
    apply Classical.byContradiction
    intro hno
    obtain ⟨n3, _, h3⟩ := goes_step_in (es := #[mk (.releaseMerge (stA C.Wg))]) (g' := nxt Try.prog false (gK6 C.Wg B1 B2 b8 b4 b7 b5)) r3 hno h2 (by kernel_rfl)
    obtain ⟨n4, h4⟩ := goes_on hrefl hStop (m := 3) (by ((repeat (refine ⟨by kernel_rfl, fun _ => by kernel_rfl, ?_⟩)); exact True.intro)) h3
    have hdis : stepG Try.prog false (nxtN Try.prog false 3 (nxt Try.prog false (gK6 C.Wg B1 B2 b8 b4 b7 b5))) w3 = .go (nxt Try.prog false (nxtN Try.prog false 3 (nxt Try.prog false (gK6 C.Wg B1 B2 b8 b4 b7 b5)))) w3 #[mk .disable] := by kernel_rfl
    obtain ⟨n5, hd, _⟩ := goes_step_in (hrefl w3) (fun hs => by obtain ⟨g', e⟩ := r0_lists hs; rw [hdis] at e; cases e) h4 hdis
    exact (hd.2 (mk .disable) (by simp)).2.1 rfl
  refine ⟨1 + 11, ?_⟩
  unfold FC.pre FC.RWx
  rw [hP, hty]
  exact goal
end

end Go.Proofs.Ytcgjppacnhmjlaa.Sim
end

section
set_option linter.unusedVariables false
set_option linter.unusedSimpArgs false
set_option linter.unusedSectionVars false
/-! The worker's function: its operations come in an order that is drawn. -/
namespace Go.Proofs.Ytcgjppacnhmjlaa.Sim
open Go Go.Conc Go.ConcN Go.Conc.Lib Go.ConcR.Gen
open Go.ConcR (KK wgBlock WgAt stA smA rd wr mk Payload DC0)
set_option linter.unusedVariables false
set_option linter.unusedSectionVars false
set_option linter.unusedSimpArgs false

def opsC : Option Code → Array Oper
  | some (.region _ ops _) => ops
  | _ => #[]
noncomputable def ops86 : Array Oper := opsC ((Try.prog.funcs[86]?).bind (·.body))
def lst (l : Nat → Bool) : Array Bool := #[l 0, l 1, l 2, l 3, l 4, l 5, l 6, l 7, l 8, l 9, l 10, l 11, l 12]
def setL (l : Nat → Bool) (i : Nat) : Nat → Bool := fun j => if j = i then true else l j
theorem setL_same (l : Nat → Bool) (i : Nat) : setL l i i = true := if_pos rfl
theorem setL_ne (l : Nat → Bool) {i j : Nat} (h : j ≠ i) : setL l i j = l j := if_neg h
theorem setL_id {l : Nat → Bool} {i : Nat} (h : l i = true) : setL l i = l := by
  funext j
  by_cases e : j = i
  · subst e; rw [setL_same, h]
  · rw [setL_ne l e]
theorem lst_set (l : Nat → Bool) : ∀ (i : Nat), i < 13 → (lst l).setIfInBounds i true = lst (setL l i)
  | 0, _ => by kernel_rfl
  | 1, _ => by kernel_rfl
  | 2, _ => by kernel_rfl
  | 3, _ => by kernel_rfl
  | 4, _ => by kernel_rfl
  | 5, _ => by kernel_rfl
  | 6, _ => by kernel_rfl
  | 7, _ => by kernel_rfl
  | 8, _ => by kernel_rfl
  | 9, _ => by kernel_rfl
  | 10, _ => by kernel_rfl
  | 11, _ => by kernel_rfl
  | 12, _ => by kernel_rfl
  | n + 13, h => by omega
theorem lst_get (l : Nat → Bool) (d : Bool) : ∀ (i : Nat), i < 13 → (lst l).getD i d = l i
  | 0, _ => by kernel_rfl
  | 1, _ => by kernel_rfl
  | 2, _ => by kernel_rfl
  | 3, _ => by kernel_rfl
  | 4, _ => by kernel_rfl
  | 5, _ => by kernel_rfl
  | 6, _ => by kernel_rfl
  | 7, _ => by kernel_rfl
  | 8, _ => by kernel_rfl
  | 9, _ => by kernel_rfl
  | 10, _ => by kernel_rfl
  | 11, _ => by kernel_rfl
  | 12, _ => by kernel_rfl
  | n + 13, h => by omega
def b2n (b : Bool) : Nat := if b then 0 else 1
def cnt (l : Nat → Bool) : Nat := b2n (l 0) + b2n (l 1) + b2n (l 2) + b2n (l 3) + b2n (l 4) + b2n (l 5) + b2n (l 6) + b2n (l 7) + b2n (l 8) + b2n (l 9) + b2n (l 10) + b2n (l 11) + b2n (l 12)
theorem b2n_false {b : Bool} (h : b = false) : b2n b = 1 := by rw [h]; rfl
theorem cnt_set (l : Nat → Bool) : ∀ (i : Nat), i < 13 → l i = false → cnt (setL l i) + 1 = cnt l
  | 0, _, h => by simp only [cnt, setL_same, setL_ne l (show 1 ≠ 0 by omega), setL, b2n_false h]; simp [b2n]; omega
  | 1, _, h => by simp only [cnt, setL, b2n_false h]; simp [b2n]; omega
  | 2, _, h => by simp only [cnt, setL, b2n_false h]; simp [b2n]; omega
  | 3, _, h => by simp only [cnt, setL, b2n_false h]; simp [b2n]; omega
  | 4, _, h => by simp only [cnt, setL, b2n_false h]; simp [b2n]; omega
  | 5, _, h => by simp only [cnt, setL, b2n_false h]; simp [b2n]; omega
  | 6, _, h => by simp only [cnt, setL, b2n_false h]; simp [b2n]; omega
  | 7, _, h => by simp only [cnt, setL, b2n_false h]; simp [b2n]; omega
  | 8, _, h => by simp only [cnt, setL, b2n_false h]; simp [b2n]; omega
  | 9, _, h => by simp only [cnt, setL, b2n_false h]; simp [b2n]; omega
  | 10, _, h => by simp only [cnt, setL, b2n_false h]; simp [b2n]; omega
  | 11, _, h => by simp only [cnt, setL, b2n_false h]; simp [b2n]; omega
  | 12, _, h => by simp only [cnt, setL, b2n_false h]; simp [b2n]
  | n + 13, h, _ => by omega
theorem all_of_cnt {l : Nat → Bool} (h : cnt l = 0) : ∀ i, i < 13 → l i = true := by
  intro i hi
  cases hl : l i with
  | true => rfl
  | false => have := cnt_set l i hi hl; omega

/-- What must have been done. -/
def Nd : Nat → (Nat → Bool) → Prop
  | 5, l => l 4 = true
  | 6, l => l 5 = true
  | 7, l => l 6 = true
  | 8, l => l 6 = true
  | 9, l => l 0 = true ∧ l 1 = true ∧ l 2 = true ∧ l 3 = true ∧ l 4 = true ∧ l 5 = true ∧ l 6 = true ∧ l 7 = true
  | 10, l => l 9 = true
  | 11, l => l 8 = true ∧ l 10 = true
  | 12, l => l 11 = true
  | _, _ => True
def Cl (l : Nat → Bool) : Prop := ∀ i, i < 13 → l i = true → Nd i l
theorem Nd.mono {l l' : Nat → Bool} (h : ∀ j, l j = true → l' j = true) : ∀ {i : Nat}, Nd i l → Nd i l'
  | 0, _ => trivial
  | 1, _ => trivial
  | 2, _ => trivial
  | 3, _ => trivial
  | 4, _ => trivial
  | 5, x => h _ x
  | 6, x => h _ x
  | 7, x => h _ x
  | 8, x => h _ x
  | 9, ⟨a0, a1, a2, a3, a4, a5, a6, a7⟩ => ⟨h _ a0, h _ a1, h _ a2, h _ a3, h _ a4, h _ a5, h _ a6, h _ a7⟩
  | 10, x => h _ x
  | 11, ⟨a, b⟩ => ⟨h _ a, h _ b⟩
  | 12, x => h _ x
  | n + 13, _ => trivial
theorem Cl.set {l : Nat → Bool} {i : Nat} (h : Cl l) (hi : Nd i l) : Cl (setL l i) := by
  have hm : ∀ j, l j = true → setL l i j = true := fun j hj => by (unfold setL; split; exact rfl; exact hj)
  intro j hj hl
  by_cases e : j = i
  · subst e; exact hi.mono hm
  · rw [setL_ne l e] at hl; exact (h j hj hl).mono hm

section
variable {md : Region.Mode} {l : Nat → Bool} {i : Nat}
set_option maxRecDepth 100000 in
theorem size86 : ops86.size = 13 := by kernel_rfl
theorem rdy_of (h : i ∈ Region.ready md ops86 (lst l)) : i < 13 ∧ l i = false ∧ ∀ (j : Nat) (e : Edge), (ops86[i]?).bind (fun o => o.after[j]?) = some e → Region.binds md e = true → e.on < 13 → l e.on = true := by
  unfold Region.ready at h
  rw [List.mem_filter, List.mem_range, size86, Bool.and_eq_true] at h
  obtain ⟨h1, h2, h3⟩ := h
  refine ⟨h1, by rw [lst_get l _ i h1] at h2; simpa using h2, fun j e he hb hon => ?_⟩
  cases ho : ops86[i]? with
  | none => rw [ho] at he; cases he
  | some o =>
    rw [ho] at h3 he
    simp only [Option.map_some, Option.getD_some, Option.bind_some] at h3 he
    have := (Array.all_eq_true_iff_forall_mem.1 h3) e (Array.mem_of_getElem? he)
    rw [hb, lst_get l _ _ hon] at this
    simpa using this
set_option maxRecDepth 100000 in
theorem rdy_nd (h : i ∈ Region.ready md ops86 (lst l)) : Nd i l := by
  obtain ⟨h1, h2, h3⟩ := rdy_of h
  have ph : ∀ n, Region.binds md ⟨n, .phase⟩ = true := fun n => rfl
  have da : ∀ n, Region.binds md ⟨n, .data⟩ = true := fun n => rfl
  match i, h1, h3 with
  | 0, _, _ => trivial
  | 1, _, _ => trivial
  | 2, _, _ => trivial
  | 3, _, _ => trivial
  | 4, _, _ => trivial
  | 5, _, h3 => exact h3 0 ⟨4, .data⟩ (by kernel_rfl) (da _) (by decide)
  | 6, _, h3 => exact h3 0 ⟨5, .data⟩ (by kernel_rfl) (da _) (by decide)
  | 7, _, h3 => exact h3 0 ⟨6, .data⟩ (by kernel_rfl) (da _) (by decide)
  | 8, _, h3 => exact h3 0 ⟨6, .data⟩ (by kernel_rfl) (da _) (by decide)
  | 9, _, h3 => exact ⟨h3 2 ⟨0, .phase⟩ (by kernel_rfl) (ph _) (by decide), h3 3 ⟨1, .phase⟩ (by kernel_rfl) (ph _) (by decide), h3 4 ⟨2, .phase⟩ (by kernel_rfl) (ph _) (by decide), h3 5 ⟨3, .phase⟩ (by kernel_rfl) (ph _) (by decide), h3 6 ⟨4, .phase⟩ (by kernel_rfl) (ph _) (by decide), h3 7 ⟨5, .phase⟩ (by kernel_rfl) (ph _) (by decide), h3 8 ⟨6, .phase⟩ (by kernel_rfl) (ph _) (by decide), h3 9 ⟨7, .phase⟩ (by kernel_rfl) (ph _) (by decide)⟩
  | 10, _, h3 => exact h3 0 ⟨9, .data⟩ (by kernel_rfl) (da _) (by decide)
  | 11, _, h3 => exact ⟨h3 10 ⟨8, .phase⟩ (by kernel_rfl) (ph _) (by decide), h3 12 ⟨10, .phase⟩ (by kernel_rfl) (ph _) (by decide)⟩
  | 12, _, h3 => exact h3 0 ⟨11, .data⟩ (by kernel_rfl) (da _) (by decide)
  | n + 13, h1, _ => omega
/-- It is ready. -/
theorem mem_rdy (hi : i < 13) (hl : l i = false) (hp : ((ops86[i]?).map (·.after.all fun e => !Region.binds md e || (lst l).getD e.on false)).getD false = true) : i ∈ Region.ready md ops86 (lst l) := by
  unfold Region.ready
  rw [List.mem_filter, List.mem_range, size86, Bool.and_eq_true]
  exact ⟨hi, by rw [lst_get l _ i hi, hl]; rfl, hp⟩
def lt (n : Nat) (l : Nat → Bool) : Nat → Bool := fun j => if j ≤ n then true else l j
theorem lt_id {n : Nat} (h : ∀ j, j ≤ n → l j = true) : lst l = lst (lt n l) := congrArg lst (funext fun j => by
  unfold lt
  split
  · exact h j ‹_›
  · rfl)
set_option maxRecDepth 100000 in
theorem rdy_some (h : ∃ i, i < 13 ∧ l i = false) : ∃ i, i ∈ Region.ready md ops86 (lst l) := by
  have tt : ∀ {b : Bool}, ¬ b = false → b = true := fun {b} h => by cases b <;> simp at h ⊢
  have nx : ∀ {n : Nat}, (∀ j, j ≤ n → l j = true) → ¬ l (n + 1) = false → ∀ j, j ≤ n + 1 → l j = true := fun {n} ha hb j hj => by
    by_cases e : j = n + 1
    · subst e; exact tt hb
    · exact ha j (by omega)
  by_cases h0 : l 0 = false
  · exact ⟨0, mem_rdy (by omega) h0 (by cases md <;> kernel_rfl)⟩
  have a0 : ∀ j, j ≤ 0 → l j = true := fun j hj => by obtain rfl : j = 0 := by omega
                                                      exact tt h0
  by_cases h1 : l 1 = false
  · exact ⟨1, mem_rdy (by omega) h1 (by cases md <;> kernel_rfl)⟩
  have a1 := nx a0 h1
  by_cases h2 : l 2 = false
  · exact ⟨2, mem_rdy (by omega) h2 (by cases md <;> kernel_rfl)⟩
  have a2 := nx a1 h2
  by_cases h3 : l 3 = false
  · exact ⟨3, mem_rdy (by omega) h3 (by cases md <;> kernel_rfl)⟩
  have a3 := nx a2 h3
  by_cases h4 : l 4 = false
  · exact ⟨4, mem_rdy (by omega) h4 (by cases md <;> kernel_rfl)⟩
  have a4 := nx a3 h4
  by_cases h5 : l 5 = false
  · exact ⟨5, mem_rdy (by omega) h5 (by rw [lt_id a4]; cases md <;> kernel_rfl)⟩
  have a5 := nx a4 h5
  by_cases h6 : l 6 = false
  · exact ⟨6, mem_rdy (by omega) h6 (by rw [lt_id a5]; cases md <;> kernel_rfl)⟩
  have a6 := nx a5 h6
  by_cases h7 : l 7 = false
  · exact ⟨7, mem_rdy (by omega) h7 (by rw [lt_id a6]; cases md <;> kernel_rfl)⟩
  have a7 := nx a6 h7
  by_cases h8 : l 8 = false
  · by_cases hg : md = .gc
    · subst hg
      by_cases h9 : l 9 = false
      · exact ⟨9, mem_rdy (by omega) h9 (by rw [lt_id a7]; kernel_rfl)⟩
      · by_cases h10 : l 10 = false
        · refine ⟨10, mem_rdy (by omega) h10 ?_⟩
          rw [← setL_id (tt h9), ← setL_id (l := setL l 9) (i := 9) (setL_same _ _)]
          rw [lt_id (l := setL (setL l 9) 9) (n := 7) fun j hj => by rw [setL_ne _ (by omega), setL_ne _ (by omega)]; exact a7 j hj]
          kernel_rfl
        · refine ⟨8, mem_rdy (by omega) h8 ?_⟩
          rw [← setL_id (tt h10)]
          rw [lt_id (l := setL l 10) (n := 7) fun j hj => by rw [setL_ne _ (by omega)]; exact a7 j hj]
          kernel_rfl
    · refine ⟨8, mem_rdy (by omega) h8 ?_⟩
      rw [lt_id a7]
      cases md with
      | gc => exact absurd rfl hg
      | text => kernel_rfl
      | any => kernel_rfl
  have a8 := nx a7 h8
  by_cases h9 : l 9 = false
  · exact ⟨9, mem_rdy (by omega) h9 (by rw [lt_id a8]; cases md <;> kernel_rfl)⟩
  have a9 := nx a8 h9
  by_cases h10 : l 10 = false
  · exact ⟨10, mem_rdy (by omega) h10 (by rw [lt_id a9]; cases md <;> kernel_rfl)⟩
  have a10 := nx a9 h10
  by_cases h11 : l 11 = false
  · exact ⟨11, mem_rdy (by omega) h11 (by rw [lt_id a10]; cases md <;> kernel_rfl)⟩
  have a11 := nx a10 h11
  by_cases h12 : l 12 = false
  · exact ⟨12, mem_rdy (by omega) h12 (by rw [lt_id a11]; cases md <;> kernel_rfl)⟩
  have a12 := nx a11 h12
  obtain ⟨i, hi, hf⟩ := h
  rw [a12 i (by omega)] at hf
  cases hf
end

section
variable (B1 B2 b8 b4 b7 b5 : Nat)
/-- Within the region: what the temporaries hold, what is left to do. -/
noncomputable def gR (x : Nat → Value) (rest : List Nat) : Goroutine :=
  gor { (gK2 B1 B2 b8 b4 b7 b5).frame with tmps := #[ptr b8, ptr b4, ptr b7, ptr b5, x 4, x 5, x 6, x 7, x 8, x 9, x 10, x 11, x 12, x 13, x 14], todo := [.inRegion ops86 rest] } (cK B1 B2 b8 b4 b7 b5 :: csK B1 B2 b8 b4 b7 b5)
def x0 : Nat → Value := fun _ => undef

variable {z : WZ} {Q : (Nat → Prop) → Goroutine → World → Prop} {K : (Nat → Bool) → (Nat → Prop) → (Nat → Value) → World → Prop}
theorem lin_succ (md : Region.Mode) (ops : Array Oper) (fuel t : Nat) (l : Array Bool) : Region.linearise.go md ops (fuel + 1) t l [] = (match (Region.ready md ops l)[t % (Region.ready md ops l).length]? with
      | some i => Region.linearise.go md ops fuel (t / (Region.ready md ops l).length) (l.setIfInBounds i true) [i]
      | none => [].reverse) := by
  simp only [Region.linearise.go]
  rfl
set_option maxRecDepth 100000 in
theorem cog_lin {md : Region.Mode} (hstep : ∀ l M x w i rest, K l M x w → i < 13 → l i = false → Nd i l → Cl l → (∀ M' x' w', K (setL l i) M' x' w' → CoG Try.prog z Q M' (gR B1 B2 b8 b4 b7 b5 x' rest) w') → CoG Try.prog z Q M (gR B1 B2 b8 b4 b7 b5 x (i :: rest)) w)
    (hend : ∀ l M x w, K l M x w → (∀ i, i < 13 → l i = true) → CoG Try.prog z Q M (gR B1 B2 b8 b4 b7 b5 x []) w) :
    ∀ (fuel t : Nat) (l : Nat → Bool) (M : Nat → Prop) (x : Nat → Value) (w : World), cnt l ≤ fuel → Cl l → K l M x w → CoG Try.prog z Q M (gR B1 B2 b8 b4 b7 b5 x (Region.linearise.go md ops86 fuel t (lst l) [])) w
  | 0, t, l, M, x, w, hc, hcl, hK => hend l M x w hK (all_of_cnt (by omega))
  | fuel + 1, t, l, M, x, w, hc, hcl, hK => by
    have e0 : Region.linearise.go md ops86 (fuel + 1) t (lst l) [] = (match (Region.ready md ops86 (lst l))[t % (Region.ready md ops86 (lst l)).length]? with
      | some i => Region.linearise.go md ops86 fuel (t / (Region.ready md ops86 (lst l)).length) ((lst l).setIfInBounds i true) [i]
      | none => [].reverse) := lin_succ md ops86 fuel t (lst l)
    rw [e0]
    clear e0
    show CoG Try.prog z Q M (gR B1 B2 b8 b4 b7 b5 x (match (Region.ready md ops86 (lst l))[t % (Region.ready md ops86 (lst l)).length]? with
      | some i => Region.linearise.go md ops86 fuel (t / (Region.ready md ops86 (lst l)).length) ((lst l).setIfInBounds i true) [i]
      | none => [].reverse)) w
    cases hi : (Region.ready md ops86 (lst l))[t % (Region.ready md ops86 (lst l)).length]? with
    | none =>
      have hnil : Region.ready md ops86 (lst l) = [] := by
        cases hr : Region.ready md ops86 (lst l) with
        | nil => rfl
        | cons x xs =>
          rw [hr] at hi
          have hlt : t % (x :: xs).length < (x :: xs).length := Nat.mod_lt _ (by simp)
          rw [List.getElem?_eq_getElem hlt] at hi
          cases hi
      refine hend l M x w hK fun i hi => ?_
      cases hl : l i with
      | true => rfl
      | false =>
        obtain ⟨j, hj⟩ := rdy_some (md := md) ⟨i, hi, hl⟩
        rw [hnil] at hj; cases hj
    | some i =>
      have hm := List.mem_of_getElem? hi
      obtain ⟨h1, h2, _⟩ := rdy_of hm
      have hnd := rdy_nd hm
      dsimp only
      rw [linearise_go_acc, List.reverse_singleton, List.singleton_append, lst_set l i h1]
      exact hstep l M x w i _ hK h1 h2 hnd hcl fun M' x' w' hK' => cog_lin hstep hend fuel _ (setL l i) M' x' w' (by have := cnt_set l i h1 h2; omega) (hcl.set hnd) hK'

theorem sched_lin (mixed : Bool) (ops : Array Oper) (t : Nat) : ∃ md t', Region.schedule mixed ops t = Region.linearise md ops t' := by
  unfold Region.schedule
  split
  · exact ⟨_, _, rfl⟩
  · exact ⟨_, _, rfl⟩

set_option maxRecDepth 100000 in
/-- ████ The worker's function, whatever the order. ████ -/
theorem cog_86 {M : Nat → Prop} {w : World} (hK : ∀ w1, Ry z M w w1 → K (fun _ => false) M x0 { w1 with drawn := w1.drawn + 1 })
    (hstep : ∀ l M x w i rest, K l M x w → i < 13 → l i = false → Nd i l → Cl l → (∀ M' x' w', K (setL l i) M' x' w' → CoG Try.prog z Q M' (gR B1 B2 b8 b4 b7 b5 x' rest) w') → CoG Try.prog z Q M (gR B1 B2 b8 b4 b7 b5 x (i :: rest)) w)
    (hend : ∀ l M x w, K l M x w → (∀ i, i < 13 → l i = true) → CoG Try.prog z Q M (gR B1 B2 b8 b4 b7 b5 x []) w) : CoG Try.prog z Q M (gK2 B1 B2 b8 b4 b7 b5) w := by
  refine .step (by kernel_rfl) fun w1 hr => ?_
  have e : gK2 B1 B2 b8 b4 b7 b5 = G ((gK2 B1 B2 b8 b4 b7 b5).frame.at ⟨(gK2 B1 B2 b8 b4 b7 b5).frame.tmps, []⟩ [.code (.region 0 ops86 true)]) (cK B1 B2 b8 b4 b7 b5 :: csK B1 B2 b8 b4 b7 b5) := by kernel_rfl
  obtain ⟨md, t', ho⟩ := sched_lin (Try.prog.follows .mixedOrders) ops86 (w1.tape w1.drawn (.order (gK2 B1 B2 b8 b4 b7 b5).frame.fn 0))
  refine ⟨gR B1 B2 b8 b4 b7 b5 x0 (Region.linearise md ops86 t'), { w1 with drawn := w1.drawn + 1 }, #[], ?_, ⟨Nat.le_refl _, fun _ _ _ _ _ _ => rfl, fun _ _ => .of_eq rfl, .of_eq rfl, .of_eq rfl, rfl, rfl, rfl, fun e he => by simp at he⟩, ?_⟩
  · have := stepG_region_draw (P := Try.prog) (main := false) (ops := ops86) (b := (gK2 B1 B2 b8 b4 b7 b5).frame) (a := ⟨(gK2 B1 B2 b8 b4 b7 b5).frame.tmps, []⟩) (k := []) (cs := cK B1 B2 b8 b4 b7 b5 :: csK B1 B2 b8 b4 b7 b5) (w := w1) (id := 0)
    rw [← e, ho] at this
    rw [this]
    congr 1
    generalize Region.linearise md ops86 t' = r
    kernel_rfl
  · have h1 := hK w1 hr
    have e2 : grow M w1 { w1 with drawn := w1.drawn + 1 } = M := funext fun b => propext (grow_self M w1 b)
    rw [e2]
    have e3 : Region.linearise md ops86 t' = Region.linearise.go md ops86 13 t' (lst fun _ => false) [] := by
      unfold Region.linearise
      rw [size86]
      congr 1
    rw [e3]
    exact cog_lin B1 B2 b8 b4 b7 b5 hstep hend 13 t' (fun _ => false) M x0 _ (by decide) (fun i _ h => by cases h) h1
end

end Go.Proofs.Ytcgjppacnhmjlaa.Sim
end
