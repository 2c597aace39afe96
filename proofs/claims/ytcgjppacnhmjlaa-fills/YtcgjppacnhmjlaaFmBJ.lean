/- Own texts: FxA, FxB, FxC, FxD. -/
import Derived.Test.YtcgjppacnhmjlaaFmBI
import Derived.Test.YtcgjppacnhmjlaaFmAF
import Derived.Laws.AppendOwn
import Derived.Test.YtcgjppacnhmjlaaFmBC

section
set_option linter.unusedVariables false
set_option linter.unusedSimpArgs false
set_option linter.unusedSectionVars false
/-! Fill. -/
namespace Go.Proofs.Ytcgjppacnhmjlaa.Sim
open Go Go.Conc Go.ConcN Go.Conc.Lib Go.ConcR.Gen Go.RowKit
open Go.ConcR (KK wgBlock WgAt stA smA rd wr mk Payload DC0)
set_option linter.unusedVariables false
set_option linter.unusedSectionVars false
set_option linter.unusedSimpArgs false

theorem fn51 : ∃ fn c, Try.prog.funcs[51]? = some fn ∧ (fn.name == "runtime.NumGoroutine") = false ∧ fn.body = some c := ⟨Try.f51, (Try.f51.body).getD .skip, Try.func51, by kernel_rfl, by kernel_rfl⟩
theorem in51 : Xm.G 51 := show mfs.contains 51 = true from by decide
theorem in52 : Xm.G 52 := show mfs.contains 52 = true from by decide

section
variable (xb Pb po n cap : Nat) (c : Frame) (cs : List Frame) (tp : Option Addr) (nb : Nat)
noncomputable def g21 : Goroutine := gor (Frame.enter Try.prog 21 #[ptr xb, vps Pb po n cap] .normal) (c :: cs)
noncomputable def f21 : Frame := hdF (nxtN Try.prog true 7 (setT (nxtN Try.prog true 10 (g21 xb Pb po n cap c cs)) 9 (.bool false))).callers
noncomputable def g21a : Goroutine := nxtN Try.prog true 3 (gor ((f21 xb Pb po n cap c cs).finish (.tuple #[.pointer tp, .int .i64 0])) (c :: cs))
noncomputable def g21b : Goroutine := putG (g21a xb Pb po n cap c cs tp) (ptr nb)
noncomputable def g21c : Goroutine := nxtN Try.prog true 14 (putG (g21b xb Pb po n cap c cs tp nb) undef)
set_option maxRecDepth 100000 in
theorem b21_at : AtR (g21b xb Pb po n cap c cs tp nb) 6 := ⟨by kernel_rfl, by kernel_rfl, by kernel_rfl, by kernel_rfl⟩
set_option maxRecDepth 100000 in
theorem c21_at : AtR (g21c xb Pb po n cap c cs tp nb) 2 := ⟨by kernel_rfl, by kernel_rfl, by kernel_rfl, by kernel_rfl⟩
end

/-- Outside block x nothing is other, whatever was drawn. -/
structure ButH (x : Nat) (w w' : World) : Prop where
  size : w.heap.size ≤ w'.heap.size
  block : ∀ k, k < w.heap.size → k ≠ x → w'.heap[k]? = w.heap[k]?
  os : w'.os = w.os
  output : w'.output = w.output
theorem ButH.of {x : Nat} {w w' : World} {tp : Tape} {d : Nat} (h : But x (re w tp d) w') : ButH x w w' := ⟨h.size, h.block, h.os, h.output⟩
theorem ButH.re {x : Nat} {w w' : World} (h : ButH x w w') (tp : Tape) (d : Nat) : ButH x w (Sim.re w' tp d) := ⟨h.size, h.block, h.os, h.output⟩
theorem index_re {S : Nat → Prop} {w : World} {x : Nat} {l : List KV} (h : IndexAt S w x l) (tp : Tape) (d : Nat) : IndexAt S (Sim.re w tp d) x l := by
  obtain ⟨n, tq, h1, h2⟩ := h.tree
  exact ⟨⟨n, tq, h1, treeN_re h2 tp d⟩, h.out, h.few⟩
theorem index_bel {S : Nat → Prop} {w w' : World} {x : Nat} {l : List KV} (h : IndexAt S w x l) (hb : Bel w w') : IndexAt S w' x l := by
  obtain ⟨n, tq, h1, h2⟩ := h.tree
  exact ⟨⟨n, tq, (hb.block x (Array.getElem?_eq_some_iff.1 h1).1).trans h1, treeN_bel h2 hb⟩, h.out, h.few⟩

section
variable {xb Pb po n cap : Nat} {vs : List Value} {pss : List (List PP)} {Post : Value → World → Prop} {O : Nat → Prop} {c : Frame} {cs : List Frame} {w : World} {R : BR} {S : Nat → Prop} {l : List KV}

set_option maxRecDepth 100000 in
/-- ████ Fill. ████ -/
theorem m_21 (hn : vs.length = n) (hK : Known Xm O R w) (hP : PartsAt (fun b => R b b) w Pb po vs pss) (hx : R xb xb) (hI : IndexAt S w xb l) (hS : ∀ k, ¬ R k k → S k) (hf : l.length + (puts pss.flatten []).length ≤ 3000)
    (hnx : ∀ O' R1 R2 w1 w', Left vs O O' R R1 w w1 → Known Xm O' R2 w' → BR.Sub R1 R2 → ButH xb w1 w' → IndexAt S w' xb (puts pss.flatten l) → MFg Try.prog Post O' (gor (c.finish (.int .i64 0)) cs) w') :
    MFg Try.prog Post O (g21 xb Pb po n cap c cs) w := by
  have hn16 : n ≤ 16 := by rw [← hn]; exact hP.len.1
  refine .kern (n := 10) (by ((repeat (refine ⟨by kernel_rfl, fun _ => by kernel_rfl, ?_⟩)); exact True.intro)) ?_
  refine .val (i := 9) (v := .bool (decide ((n : Int) > 16))) (v' := .bool false) (by kernel_rfl) (by rw [decide_eq_false (by omega)]) ?_
  refine .kern (n := 7) (by ((repeat (refine ⟨by kernel_rfl, fun _ => by kernel_rfl, ?_⟩)); exact True.intro)) (.eqv (g' := gE0 Pb po n cap (f21 xb Pb po n cap c cs) (c :: cs)) (by kernel_rfl) (m_50 hn hK hP fun O' R' w1 tp n' hL hT hv => ?_))
  have hI1 := left_index hK hP hL hx hI
  have hK1 := hL.known
  have hlt := hK1.wr.lt (hL.sub _ _ hx)
  refine .kern (n := 3) (by ((repeat (refine ⟨by kernel_rfl, fun _ => by kernel_rfl, ?_⟩)); exact True.intro)) ?_
  refine .new (by kernel_rfl) (.cells #[.pointer none] 93) (fun nb => g21b xb Pb po n cap c cs tp nb) (fun w => by kernel_rfl) ?_
  have p2 : (newB w1 (.cells #[.pointer none] 93)).heap[w1.heap.size]? = some (.cells #[.pointer none] 93) := newB_new w1 _
  have o2 : ∀ b, b < w1.heap.size → (newB w1 (.cells #[.pointer none] 93)).heap[b]? = w1.heap[b]? := fun b hb => newB_old w1 _ hb
  have s2 : (newB w1 (.cells #[.pointer none] 93)).heap.size = w1.heap.size + 1 := by simp [newB]
  have u2 : (newB w1 (.cells #[.pointer none] 93)).os = w1.os ∧ (newB w1 (.cells #[.pointer none] 93)).output = w1.output := ⟨rfl, rfl⟩
  generalize newB w1 (.cells #[.pointer none] 93) = w2 at p2 o2 s2 u2
  refine .st (by kernel_rfl) (b21_at xb Pb po n cap c cs tp w1.heap.size) (t := 93) (x := .tmp 5) (y := .tmp 13) (a := ⟨w1.heap.size, 0, none⟩) (v := .pointer tp) (u := .pointer none) (by kernel_rfl) (by kernel_rfl) (by kernel_rfl) rfl Try.sizeOf93 (fun h => by have := hK1.low _ h; simp at this) (by simp [World.cell?, p2]) (frozen_of p2) ?_
  have a3 := aside_setCell w2 ⟨w1.heap.size, 0, none⟩ (.pointer tp)
  have e3 : (w2.setCell ⟨w1.heap.size, 0, none⟩ (.pointer tp)).heap[w1.heap.size]? = some (.cells #[.pointer tp] 93) := by simp [World.setCell, Array.getElem?_modify, p2]
  generalize w2.setCell ⟨w1.heap.size, 0, none⟩ (.pointer tp) = w3 at a3 e3
  have hB : Bel w1 w3 := ⟨by rw [a3.size, s2]; omega, fun b hb => (a3.block b (by show b ≠ w1.heap.size; omega)).trans (o2 b hb), a3.os.trans u2.1, a3.output.trans u2.2⟩
  have hK3 : Known Xm O' (R'.add w1.heap.size w1.heap.size) w3 := hK1.add hB.block e3 (blk_self (avp_one (hv.mono (BR.sub_add _ _ _)))) hB.size
  refine .kern (n := 14) (by ((repeat (refine ⟨by kernel_rfl, fun _ => by kernel_rfl, ?_⟩)); exact True.intro)) ?_
  obtain ⟨fn, cc, f1, f2, f3⟩ := fn51
  have hSopen : Open S w3 := fun k hk => hS k fun h => by have := (hK.wr.lt h).1; have := hL.size; have := hB.size; omega
  have hsl : Srt l := hI.srt
  refine .call (c21_at xb Pb po n cap c cs tp w1.heap.size) (by kernel_rfl) (f := 51) (args := #[.tmp 18, .tmp 19]) (ats := match (oG (g21c xb Pb po n cap c cs tp w1.heap.size)).op with | .call c => c.argTypes | _ => #[]) (by kernel_rfl) f1 f2 f3 in51 (vals := #[ptr xb, .func (.func 52) #[] #[ptr w1.heap.size]]) (by kernel_rfl) hK3 ⟨rfl, fun i v v' a b => ?_⟩
    (Post1 := fun v w' => v = .int .i64 0 ∧ IndexAt S w' xb (puts pss.flatten l) ∧ ButH xb w3 w') (fun v w' tp d ⟨h1, h2, h3⟩ => ⟨h1, index_re h2 tp d, h3.re tp d⟩) (fun tape => ?_) fun v w' R2 ⟨h1, h2, h3⟩ hK' hv' hsub hsz => ?_
  · rw [a] at b; cases b
    match i with
    | 0 => simp at a; subst a; exact .ptr ⟨.inl (hL.sub _ _ hx), rfl, rfl⟩
    | 1 =>
      simp at a; subst a
      refine .func 52 in52 rfl (fun i v v' a => by simp at a) rfl fun i v v' a b => ?_
      rw [a] at b; cases b
      match i with
      | 0 => simp at a; subst a; exact .ptr ⟨.inr ⟨rfl, rfl⟩, rfl, rfl⟩
      | i + 1 => simp at a
    | i + 2 => simp at a
  · have hT3 : TreeN S n' w3 tp (puts pss.flatten []) := treeN_bel (hT.weaken fun k hk _ => hS k hk) hB
    refine (change_fill (S := S) (w := re w3 tape 0) (fun k hk => hSopen k hk) (index_re (index_bel hI1 hB) tape 0) (treeN_re hT3 tape 0) (bx := w1.heap.size) (show w3.cell? ⟨w1.heap.size, 0, none⟩ = some (.pointer tp) by simp [World.cell?, e3]) hf).mono ?_
    rintro e w' ⟨rfl, h1, h2⟩
    refine ⟨_, rfl, rfl, ?_, ButH.of h2⟩
    rw [← puts_uni' pss.flatten hsl]
    exact h1
  · subst h1
    refine .kern (n := 4) (by ((repeat (refine ⟨by kernel_rfl, fun _ => by kernel_rfl, ?_⟩)); exact True.intro)) (.eqv (g' := gor (c.finish (.int .i64 0)) cs) (by kernel_rfl) (hnx O' R' R2 w1 w' hL hK' ((BR.sub_add _ _ _).trans hsub) ⟨Nat.le_trans hB.size h3.size, fun k hk hne => (h3.block k (Nat.lt_of_lt_of_le hk hB.size) hne).trans (hB.block k hk), h3.os.trans hB.os, h3.output.trans hB.output⟩ h2))
end

end Go.Proofs.Ytcgjppacnhmjlaa.Sim
end

section
set_option linter.unusedVariables false
set_option linter.unusedSimpArgs false
set_option linter.unusedSectionVars false
/-! Operations of goroutine 0's, by what they do alone. -/
namespace Go.Proofs.Ytcgjppacnhmjlaa.Sim
open Go Go.Conc Go.ConcN Go.Conc.Lib Go.ConcR.Gen Go.RowKit
open Go.ConcR (KK wgBlock WgAt stA smA rd wr mk Payload DC0)
set_option linter.unusedVariables false
set_option linter.unusedSectionVars false
set_option linter.unusedSimpArgs false

def useOpd (U : List Nat) : Operand → Bool
  | .tmp t => U.contains t
  | _ => true
def rhoU (U : List Nat) (ρ : Operand → Value) : Operand → Value
  | .tmp t => if U.contains t then ρ (.tmp t) else undef
  | x => ρ x
theorem rhoU_eq {U : List Nat} {ρ : Operand → Value} {x : Operand} (h : useOpd U x = true) : rhoU U ρ x = ρ x := by
  cases x with
  | tmp t => show (if U.contains t = true then ρ (.tmp t) else undef) = _; rw [if_pos (show U.contains t = true from h)]
  | _ => rfl

section
variable {Post : Value → World → Prop} {O : Nat → Prop} {g : Goroutine} {w : World} {R : BR}

theorem op_known {U : List Nat} {i : Nat} (hU : noOpQ (useOpd U) (oG g).op = true) (ok : okOp Try.prog mfs true [103] (oG g).op = true) (hK : Known Xm O R w) (hv : ∀ t ∈ U, VR Xm.G R ((aG g).eval (.tmp t)) ((aG g).eval (.tmp t)))
    {tp : Tape} {d : Nat} {n : Go.Next} {w1 : World} (hr : (execOp (aG g).eval (oG g)).run Try.prog (Sim.re w tp d) = .ok n w1) :
    ∃ R1, Known Xm O R1 (nrm w1) ∧ NextR Xm R1 n n ∧ BR.Sub R R1 ∧ w.heap.size ≤ w1.heap.size ∧ ∀ e ∈ listed Try.prog g.frame.fn (aG g) (oG g) (Sim.re w tp d), EvM O w1.heap.size e := by
  have hc : execOp (aG g).eval (oG g) = execOp (rhoU U (aG g).eval) (oG g) := execOp_congr (q := useOpd U) (fun x hx => (rhoU_eq hx).symm) hU
  have hS : SemR Xm (NextR Xm) R (execOp (rhoU U (aG g).eval) (oG g)) (execOp (rhoU U (aG g).eval) (oG g)) := by
    refine r_execOp mgood.hX mgood.F hK.wr.fine (fun x hx => ?_) (fun v => ⟨rfl, rfl⟩) (oG g) ok
    cases x with
    | tmp t =>
      show VR Xm.G R (if U.contains t = true then (aG g).eval (.tmp t) else undef) (if U.contains t = true then (aG g).eval (.tmp t) else undef)
      split
      · rename_i h; exact hv t (by simpa using h)
      · exact .undef
    | const v => exact okVal_vr hx
    | global g => cases hx
    | func f => exact .func f (by rw [mgood.hX]; exact hx) rfl (fun i v v' e => by simp at e) rfl fun i v v' e => by simp at e
  have hT : (execOp (rhoU U (aG g).eval) (oG g)).runT Try.prog (Sim.re w tp d) #[] = (.ok n w1, ((execOp (rhoU U (aG g).eval) (oG g)).runT Try.prog (Sim.re w tp d) #[]).2) := by rw [← hr, hc, ← Sem.runT_fst Try.prog _ _ #[]]
  obtain ⟨R1, e1, e2, e3, e4, e5⟩ := hS.soundU mview rfl hK.diag (re_WR hK.wr tp tp d d) (es := #[]) .nil hT
  have hK1 := hK.step e1 e3 e4
  refine ⟨R1, hK1, e2, e4.sub, e4.sz, fun e he => evL_of_known hK1 e3 e5 ?_⟩
  unfold listed at he
  have := seen_mem he
  rw [hc] at this
  exact this

/-- An operation that yields a value. -/
theorem MFg.op {U : List Nat} {i : Nat} {St : Value → World → Prop} (hrun : g.status = .running) (h : AtR g i) (hU : noOpQ (useOpd U) (oG g).op = true) (ok : okOp Try.prog mfs true [103] (oG g).op = true) (hK : Known Xm O R w) (hv : ∀ t ∈ U, VR Xm.G R ((aG g).eval (.tmp t)) ((aG g).eval (.tmp t)))
    (hr : ∀ tp d, ∃ v w1, (execOp (aG g).eval (oG g)).run Try.prog (Sim.re w tp d) = .ok (.value v) w1 ∧ St v w1)
    (hn : ∀ v w1 R1, St v w1 → Known Xm O R1 w1 → VR Xm.G R1 v v → BR.Sub R R1 → w.heap.size ≤ w1.heap.size → MFg Try.prog Post O (putG g v) w1) : MFg Try.prog Post O g w :=
  .step hrun fun tp d => by
    obtain ⟨v, w1, h1, h2⟩ := hr tp d
    obtain ⟨R1, k1, k2, k3, k4, k5⟩ := op_known (i := i) hU ok hK hv h1
    cases k2 with
    | value hvv => exact ⟨_, _, _, step_value h h1, k4, k5, hn v w1 R1 h2 (k1.re w1.tape w1.drawn) hvv k3 k4⟩
/-- .. that yields none. -/
theorem MFg.opu {U : List Nat} {i : Nat} {St : World → Prop} (hrun : g.status = .running) (h : AtR g i) (hU : noOpQ (useOpd U) (oG g).op = true) (ok : okOp Try.prog mfs true [103] (oG g).op = true) (hK : Known Xm O R w) (hv : ∀ t ∈ U, VR Xm.G R ((aG g).eval (.tmp t)) ((aG g).eval (.tmp t)))
    (hr : ∀ tp d, ∃ w1, (execOp (aG g).eval (oG g)).run Try.prog (Sim.re w tp d) = .ok .skip w1 ∧ St w1)
    (hn : ∀ w1 R1, St w1 → Known Xm O R1 w1 → BR.Sub R R1 → w.heap.size ≤ w1.heap.size → MFg Try.prog Post O (putG g undef) w1) : MFg Try.prog Post O g w :=
  .step hrun fun tp d => by
    obtain ⟨w1, h1, h2⟩ := hr tp d
    obtain ⟨R1, k1, k2, k3, k4, k5⟩ := op_known (i := i) hU ok hK hv h1
    exact ⟨_, _, _, step_none h h1, k4, k5, hn w1 R1 h2 (k1.re w1.tape w1.drawn) k3 k4⟩
/-- A piece of code, some places hidden. -/
theorem MFg.codez {c : Code} {k : List Item} {z : List (Nat × Value)} {tm : Array Value} {Q : Exit → Act → World → Prop} {St : Act → World → Prop} (he : g = gor (g.frame.at ⟨unmA z tm, []⟩ (.code c :: k)) g.callers) (hb : g.frame.kind = .normal) (hg : ∃ f, Try.prog.funcs[g.frame.fn]? = some f)
    (hok : okCode Try.prog mfs true [103] c = true) (hz : noCode (z.map (·.1)) c = true) (hK : Known Xm O R w) (ha : AVR Xm.G R tm tm)
    (hp : ∀ a w tp d, St a w → St a (Sim.re w tp d)) (hQ : ∀ e a' w', Q e a' w' → e = .normal ∧ St a' w') (hc : ∀ tp, c.wp Try.prog Q ⟨tm, []⟩ (Sim.re w tp 0))
    (hn : ∀ tm' w' R', St ⟨tm', []⟩ w' → Known Xm O R' w' → AVR Xm.G R' tm' tm' → BR.Sub R R' → w.heap.size ≤ w'.heap.size → MFg Try.prog Post O (gor (g.frame.at ⟨unmA z tm', []⟩ k) g.callers) w') : MFg Try.prog Post O g w := by
  rw [he]
  refine MFin.toG (main_codez (X := Xm) (P := Try.prog) (fs := mfs) (fz := true) (vs := [103]) (z := z) (a := ⟨tm, []⟩) (St := St) (Q := Q) mgood mview hb hg rfl hok hz hK ha hp hQ hc fun a' w' R' h1 h2 h3 h4 h5 h6 => ?_)
  obtain ⟨tm', df⟩ := a'
  dsimp only at h4
  subst h4
  exact hn tm' w' R' h1 h2 h3 h5 h6
end
/-! Places in a code. -/
def nl : Code → Code
  | .seq a _ => a
  | c => c
def nr : Code → Code
  | .seq _ b => b
  | c => c
def nb : Code → Code
  | .block _ b => b
  | .loop b => b
  | c => c
def nt : Code → Code
  | .cond _ a _ => a
  | c => c
def ne : Code → Code
  | .cond _ _ b => b
  | c => c
end Go.Proofs.Ytcgjppacnhmjlaa.Sim
end

section
set_option linter.unusedVariables false
set_option linter.unusedSimpArgs false
set_option linter.unusedSectionVars false
/-! append, of one more, onto a row of one's own; what lies behind the row's end is plain too. -/
namespace Go.Proofs.Ytcgjppacnhmjlaa.Sim
open Go Go.Conc Go.ConcN Go.Conc.Lib Go.ConcR.Gen Go.RowKit
set_option linter.unusedVariables false
set_option linter.unusedSectionVars false
set_option linter.unusedSimpArgs false

def RowQ (Pl : Value → Prop) (w : World) (base : Nat) (e : TypeId) (size : Nat) (v : Value) (n : Nat) (xs : List Value) : Prop :=
  xs.length = n * size ∧ ((v = .slice none 0 0 ∧ n = 0) ∨
   ∃ g cap cur, v = .slice (some ⟨g, 0, none⟩) n cap ∧ base ≤ g ∧ w.heap[g]? = some (.cells cur e (0, 0)) ∧ n ≤ cap ∧ cap ≤ maxLen ∧ cur.size = cap * size ∧ cur.toList.take (n * size) = xs ∧ ∀ x ∈ cur, Pl x)
theorem RowQ.own {Pl : Value → Prop} {w : World} {base : Nat} {e : TypeId} {size : Nat} {v : Value} {n : Nat} {xs : List Value} (h : RowQ Pl w base e size v n xs) : w.ownsRow base e size v n xs := by
  refine ⟨h.1, ?_⟩
  rcases h.2 with h | ⟨g, cap, cur, h1, h2, h3, h4, h5, h6, h7, _⟩
  · exact .inl h
  · exact .inr ⟨g, cap, cur, h1, h2, h3, h4, h5, h6, h7⟩
theorem RowQ.nil (Pl : Value → Prop) (w : World) (base : Nat) (e : TypeId) (size : Nat) : RowQ Pl w base e size (.slice none 0 0) 0 [] := ⟨by simp, .inl ⟨rfl, rfl⟩⟩
theorem mem_zeroCells {Pl : Value → Prop} {z : Array Value} {n : Nat} (hz : ∀ x ∈ z, Pl x) : ∀ x ∈ Builtin.zeroCells z n, Pl x := by
  intro x hx
  unfold Builtin.zeroCells at hx
  obtain ⟨i, hi, rfl⟩ := Array.mem_map.1 hx
  have : 0 < z.size := by
    rcases Nat.eq_zero_or_pos z.size with h | h
    · rw [h] at hi; simp at hi
    · exact h
  have hlt : i % z.size < z.size := Nat.mod_lt _ this
  rw [getElem!_pos z (i % z.size) hlt]
  exact hz _ (Array.getElem_mem hlt)

section
variable {P : Program} (w : World)
theorem run_append_q {Pl : Value → Prop} (base : Nat) (t ty e : TypeId) (i : TypeInfo) (z : Value) (size bytes : Nat) (ht : P.underlying t = some (.slice e)) (hi : P.info? e = some i) (hz : i.zero = some z)
    (hsize : i.size = size) (hby : i.bytes = bytes) (hzs : z.cells.size = size) (hsz : 0 < size) (hzp : ∀ x ∈ z.cells, Pl x)
    (v : Value) (n : Nat) (xs : List Value) (hown : RowQ Pl w base e size v n xs)
    (a : Addr) (c : Nat) (news : List Value) (hl : news.length = 1 * size) (hnews : ∀ j u, news[j]? = some u → w.cell? (a.add j) = some u) (h1 : ∀ u ∈ news, u.oneCell' = true) (hnp : ∀ u ∈ news, Pl u)
    (h63 : n + 1 ≤ maxLen) (hbytes : (n + 1) * bytes ≤ 140737488355328) (hbase : base ≤ w.heap.size) :
    ∃ v' w', (Builtin.append_ #[t, t] ty #[v, .slice (some a) 1 c]).run P w = .ok v' w' ∧ RowQ Pl w' base e size v' (n + 1) (xs ++ news) ∧ w.grownBy w' v.ownBlock ∧ ∀ b, v'.ownBlock = some b → v.ownBlock = some b ∨ w.heap.size ≤ b := by
  subst hsize
  subst hby
  have hsmall : n + 1 ≤ 9223372036854775807 := by simp only [maxLen] at h63; omega
  have hlen : (xs ++ news).length = (n + 1) * i.size := by rw [List.length_append, hown.1, hl, Nat.add_mul]
  have grown : ∀ (old : Nat) (cur : Array Value), (∀ x ∈ xs, Pl x) → ∀ (row : Option Nat),
      RowQ Pl (w.drew.alloc (.cells (xs.toArray ++ news.toArray ++ Builtin.zeroCells z.cells (grownCap w (n + 1) old e - (n + 1))) e)) base e i.size
        (.slice (some ⟨w.heap.size, 0, none⟩) (n + 1) (grownCap w (n + 1) old e)) (n + 1) (xs ++ news) ∧
      w.grownBy (w.drew.alloc (.cells (xs.toArray ++ news.toArray ++ Builtin.zeroCells z.cells (grownCap w (n + 1) old e - (n + 1))) e)) row := by
    intro old cur hxs row
    have hge := grownCap_ge w (n + 1) old e
    have hcm : grownCap w (n + 1) old e ≤ maxLen := grownCap_le_maxLen w (n + 1) old e h63
    refine ⟨⟨hlen, .inr ⟨w.heap.size, _, _, rfl, hbase, heap_alloc_new w.drew _, hge, hcm, ?_, ?_, ?_⟩⟩, ⟨rfl, rfl, rfl, by simp, fun k hk _ => Go.heap_alloc_old w.drew _ hk⟩⟩
    · simp only [Array.size_append, List.size_toArray, size_zeroCells, hzs, hown.1, hl, ← Nat.add_mul]
      congr 1
      omega
    · simp only [Array.toList_append, List.append_assoc]
      rw [← List.append_assoc, ← hlen]
      exact List.take_left
    · intro x hx
      rcases Array.mem_append.1 hx with hx | hx
      · rcases Array.mem_append.1 hx with hx | hx
        · exact hxs x (by simpa using hx)
        · exact hnp x (by simpa using hx)
      · exact mem_zeroCells hzp x hx
  rcases hown.2 with ⟨rfl, rfl⟩ | ⟨g, cap, cur, rfl, hbg, hg, hnc, hcm, hcs, htake, hpl⟩
  · have hx : xs = [] := List.eq_nil_of_length_eq_zero (by simpa using hown.1)
    subst hx
    have hr := run_append_nil (P := P) w t ty e i z ht hi hz a 1 c news hl hnews (by omega) (by omega) (by have hb := hbytes; simp only [Nat.zero_add] at hb; omega)
    have hgr := grown 0 #[] (fun x hx => by cases hx) (Value.ownBlock (.slice none 0 0))
    simp only [Nat.zero_add, List.nil_append, Array.empty_append] at hgr ⊢
    exact ⟨_, _, hr, hgr.1, hgr.2, fun b hb => .inr (by simp [Value.ownBlock] at hb; omega)⟩
  · have hxs : ∀ x ∈ xs, Pl x := fun x hx => by rw [← htake] at hx; exact hpl x (by simpa using List.mem_of_mem_take hx)
    by_cases hroom : n + 1 ≤ cap
    · have hfit : n * i.size + news.length ≤ cur.size := by rw [hl, hcs, ← Nat.add_mul]; exact Nat.mul_le_mul_right _ hroom
      have hr := run_append_room (P := P) w t ty e i ht hi g n cap cur hg a 1 c news hl hnews h1 hroom hfit
      refine ⟨_, _, hr, ⟨hlen, .inr ⟨g, cap, _, rfl, hbg, setRow_heap w g cur _ e _ hg, hroom, hcm, ?_, ?_, ?_⟩⟩, ⟨rfl, rfl, rfl, by simp, fun k _ hk => setRow_other w g k _ (fun e => hk (by simp [Value.ownBlock, e]))⟩, fun b hb => .inl (by simpa [Value.ownBlock] using hb)⟩
      · simp only [List.size_toArray, List.length_append, List.length_take, List.length_drop, Array.length_toList]
        omega
      · rw [htake, ← hlen]
        exact List.take_left
      · intro x hx
        simp only [List.mem_toArray, List.mem_append] at hx
        rcases hx with (hx | hx) | hx
        · exact hpl x (by simpa using List.mem_of_mem_take hx)
        · exact hnp x hx
        · exact hpl x (by simpa using List.mem_of_mem_drop hx)
    · have holds : ∀ j u, xs[j]? = some u → w.cell? ((⟨g, 0, none⟩ : Addr).add j) = some u := hown.own.cells (g := g) rfl
      have hr := run_append_grow (P := P) w t ty e i z ht hi hz ⟨g, 0, none⟩ n cap xs hown.1 holds a 1 c news hl hnews (by omega) (by omega) (growslice_fits (by omega) hbytes)
      have hgr := grown cap #[] hxs (Value.ownBlock (.slice (some ⟨g, 0, none⟩) n cap))
      exact ⟨_, _, hr, hgr.1, hgr.2, fun b hb => .inr (by simp [Value.ownBlock] at hb; omega)⟩
end

/-- What is other: a row at most. -/
structure GrH (row : Option Nat) (w w' : World) : Prop where
  size : w.heap.size ≤ w'.heap.size
  block : ∀ k, k < w.heap.size → some k ≠ row → w'.heap[k]? = w.heap[k]?
  os : w'.os = w.os
  output : w'.output = w.output
theorem GrH.re {row : Option Nat} {w w' : World} (h : GrH row w w') (tp : Tape) (d : Nat) : GrH row w (Sim.re w' tp d) := ⟨h.size, h.block, h.os, h.output⟩
theorem RowQ.re {Pl : Value → Prop} {w : World} {base : Nat} {e : TypeId} {size : Nat} {v : Value} {n : Nat} {xs : List Value} (h : RowQ Pl w base e size v n xs) (tp : Tape) (d : Nat) : RowQ Pl (Sim.re w tp d) base e size v n xs := h
theorem RowQ.keep {Pl : Value → Prop} {w w' : World} {base : Nat} {e : TypeId} {size : Nat} {v : Value} {n : Nat} {xs : List Value} (h : RowQ Pl w base e size v n xs) (hb : ∀ k, v.ownBlock = some k → w'.heap[k]? = w.heap[k]?) : RowQ Pl w' base e size v n xs := by
  refine ⟨h.1, ?_⟩
  rcases h.2 with h | ⟨g, cap, cur, rfl, h2, h3, h4⟩
  · exact .inl h
  · exact .inr ⟨g, cap, cur, rfl, h2, (hb g rfl).trans h3, h4⟩

section
variable {Post : Value → World → Prop} {O : Nat → Prop} {g : Goroutine} {w : World} {R : BR}
/-- append. -/
theorem MFg.app {Pl : Value → Prop} {i s x : Nat} {t e : TypeId} {base : Nat} {ti : TypeInfo} {z : Value} {size bytes : Nat} {v : Value} {n : Nat} {xs : List Value} {ad : Addr} {c : Nat} {news : List Value}
    (hrun : g.status = .running) (h : AtR g i) (hop : (oG g).op = .call { callee := .builtin .append, args := #[.tmp s, .tmp x], argTypes := #[t, t] }) (ok : okOp Try.prog mfs true [103] (oG g).op = true)
    (ht : Try.prog.underlying t = some (.slice e)) (hi : Try.prog.info? e = some ti) (hz : ti.zero = some z) (hsize : ti.size = size) (hby : ti.bytes = bytes) (hzs : z.cells.size = size) (hsz : 0 < size) (hzp : ∀ x ∈ z.cells, Pl x)
    (hs : (aG g).eval (.tmp s) = v) (hx : (aG g).eval (.tmp x) = .slice (some ad) 1 c) (hK : Known Xm O R w) (hv : VR Xm.G R v v) (hv2 : VR Xm.G R (.slice (some ad) 1 c) (.slice (some ad) 1 c))
    (hown : RowQ Pl w base e size v n xs) (hl : news.length = 1 * size) (hnews : ∀ j u, news[j]? = some u → w.cell? (ad.add j) = some u) (h1 : ∀ u ∈ news, u.oneCell' = true) (hnp : ∀ u ∈ news, Pl u)
    (h63 : n + 1 ≤ maxLen) (hbytes : (n + 1) * bytes ≤ 140737488355328) (hbase : base ≤ w.heap.size)
    (hn : ∀ v' w' R', RowQ Pl w' base e size v' (n + 1) (xs ++ news) → GrH v.ownBlock w w' → Known Xm O R' w' → VR Xm.G R' v' v' → BR.Sub R R' → (∀ b, v'.ownBlock = some b → v.ownBlock = some b ∨ w.heap.size ≤ b) → MFg Try.prog Post O (putG g v') w') : MFg Try.prog Post O g w := by
  refine .op (U := [s, x]) (St := fun v' w' => RowQ Pl w' base e size v' (n + 1) (xs ++ news) ∧ GrH v.ownBlock w w' ∧ ∀ b, v'.ownBlock = some b → v.ownBlock = some b ∨ w.heap.size ≤ b) hrun h (by rw [hop]; simp [noOpQ, useOpd]) ok hK (fun t ht => ?_) (fun tp d => ?_) fun v' w' R' hst hk hvv hsub hsz => hn v' w' R' hst.1 hst.2.1 hk hvv hsub hst.2.2
  · simp at ht
    rcases ht with rfl | rfl
    · rw [hs]; exact hv
    · rw [hx]; exact hv2
  · obtain ⟨v', w', hr, h2, h3, h4⟩ := run_append_q (P := Try.prog) (Pl := Pl) (Sim.re w tp d) base t (oG g).type e ti z size bytes ht hi hz hsize hby hzs hsz hzp v n xs hown ad c news hl hnews h1 hnp h63 hbytes hbase
    refine ⟨v', w', ?_, h2, ⟨h3.size, h3.block, h3.os, h3.output⟩, h4⟩
    unfold execOp
    simp only [hop, resolve, invoke, builtin, Sem.run_bind, Sem.run_pure, Result.andThen_ok, List.map_toArray, List.map_cons, List.map_nil, hs, hx, hr]
end
end Go.Proofs.Ytcgjppacnhmjlaa.Sim
end

section
set_option linter.unusedVariables false
set_option linter.unusedSimpArgs false
set_option linter.unusedSectionVars false
/-! short, of goroutine 0's. -/
namespace Go.Proofs.Ytcgjppacnhmjlaa.Sim
open Go Go.Conc Go.ConcN Go.Conc.Lib Go.ConcR.Gen Go.RowKit
set_option linter.unusedVariables false
set_option linter.unusedSectionVars false
set_option linter.unusedSimpArgs false

theorem run_cut {ρ : Operand → Value} {o : Oper} {w : World} {s : ByteArray} (hop : o.op = .slice 9 (.tmp 23) none (some (.const (.int .i64 64))) none) (h : ρ (.tmp 23) = .string s) (hc : ∀ v, ρ (.const v) = v) (h64 : 64 < s.size) : (execOp ρ o).run Try.prog w = .ok (.value (.string (s.extract 0 64))) w := by
  unfold execOp
  simp only [hop, h, hc, Option.map_some, Option.map_none]
  simp [go_sem, Instr.sliceAt]
  intro hlt; omega

theorem vr_of {G : FuncId → Prop} {R : BR} {e u : Value} (h : e = u) (hv : VR G R u u) : VR G R e e := h ▸ hv
/-- Texts that lie where a slice says. -/
def StrO (w : World) (ao : Option Addr) (ss : List ByteArray) : Prop := ∀ (i : Nat) s, ss[i]? = some s → ∃ k o, ao = some ⟨k, o, none⟩ ∧ w.cell? ⟨k, o + i, none⟩ = some (.string s)
def IsStr (v : Value) : Prop := ∃ s, v = .string s

section
variable (ao : Option Addr) (n c0 : Nat) (c : Frame) (cs : List Frame) (x : Nat → Value) (v : Value) (j : Nat)
noncomputable def gEs : Goroutine := gor (Frame.enter Try.prog 9 #[.slice ao n c0] .normal) (c :: cs)
/-- short, at the head of its loop. -/
noncomputable def gHs : Goroutine := gor { (nxtN Try.prog true 15 (gEs ao n c0 c cs)).frame with tmps := #[.slice ao n c0, x 1, x 2, v, .int .i64 (j : Int), x 5, x 6, x 7, x 8, x 9, x 10, x 11, x 12, x 13, x 14, x 15, x 16, x 17, x 18, x 19, x 20, x 21, x 22, x 23, x 24, x 25, x 26, x 27, x 28, x 29] } (c :: cs)
/-- .. where the next text is at hand. -/
noncomputable def gBs (s' : ByteArray) : Goroutine := gor { (nxtN Try.prog true 6 (setT (nxtN Try.prog true 8 (putG (putG (nxtN Try.prog true 10 (setT (nxtN Try.prog true 3 (setT (nxtN Try.prog true 7 (gHs ao n c0 c cs x v j)) 9 (.bool true))) 12 (.bool true))) undef) (.string ⟨#[]⟩))) 22 (.bool false))).frame with tmps := #[.slice ao n c0, x 1, x 2, v, .int .i64 (j : Int), .string s', x 6, x 7, x 8, x 9, x 10, x 11, x 12, x 13, x 14, x 15, x 16, x 17, x 18, x 19, x 20, x 21, x 22, x 23, x 24, v, .string s', x 27, x 28, x 29] } (c :: cs)
end

theorem RowQ.ge {Pl : Value → Prop} {w : World} {base : Nat} {e : TypeId} {size : Nat} {v : Value} {n : Nat} {xs : List Value} (h : RowQ Pl w base e size v n xs) {k : Nat} (hk : v.ownBlock = some k) : base ≤ k ∧ k < w.heap.size := h.own.lt k hk
theorem RowQ.newB {Pl : Value → Prop} {w : World} {base : Nat} {e : TypeId} {size : Nat} {v : Value} {n : Nat} {xs : List Value} (h : RowQ Pl w base e size v n xs) (o : Obj) (tp : Tape) (d : Nat) : RowQ Pl (Sim.re (newB w o) tp d) base e size v n xs :=
  h.keep fun k hk => newB_old w o (h.ge hk).2
theorem bel_grow {Pl : Value → Prop} {w0 w w' : World} {e : TypeId} {size : Nat} {v : Value} {n : Nat} {xs : List Value} {o : Obj} {tp : Tape} {d : Nat} {base : Nat} (h : RowQ Pl w base e size v n xs) (hle : w0.heap.size ≤ base) (hb : Bel w0 w) (hg : GrH v.ownBlock (Sim.re (newB w o) tp d) w') : Bel w0 w' := by
  have hs : w.heap.size ≤ w'.heap.size := Nat.le_trans (by simp [Sim.newB, Sim.re]) hg.size
  refine ⟨Nat.le_trans hb.size hs, fun b hb' => ?_, hg.os.trans hb.os, hg.output.trans hb.output⟩
  have hlt : b < w.heap.size := Nat.lt_of_lt_of_le hb' hb.size
  rw [hg.block b (by show b < (Sim.newB w o).heap.size; simp [Sim.newB]; omega) (fun e => by have := (h.ge e.symm).1; omega)]
  exact (newB_old w o hlt).trans (hb.block b hb')

section
variable {ao : Option Addr} {c0 : Nat} {c : Frame} {cs : List Frame} {ss : List ByteArray} {O : Nat → Prop} {R0 : BR} {w0 : World} {Post : Value → World → Prop}

set_option maxRecDepth 100000 in
theorem m_9_loop (hss : StrO w0 ao ss) (hO : ∀ a, ao = some a → ¬ O a.block) (hsz : ss.length ≤ 9223372036854775807)
    (hnx : ∀ v w R, RowQ IsStr w w0.heap.size 9 1 v (shortOf ss).length ((shortOf ss).map Value.string) → Bel w0 w → Known Xm O R w → VR Xm.G R v v → BR.Sub R0 R → MFg Try.prog Post O (gor (c.finish v) cs) w) :
    ∀ (r j : Nat), r + j = (shortOf ss).length → ∀ (x : Nat → Value) (v : Value) (w : World) (R : BR), RowQ IsStr w w0.heap.size 9 1 v j (((shortOf ss).take j).map Value.string) → Bel w0 w → Known Xm O R w → VR Xm.G R v v → BR.Sub R0 R →
      MFg Try.prog Post O (gHs ao ss.length c0 c cs x v j) w := by
  have hm : (shortOf ss).length = min 300 ss.length := shortOf_len ss
  intro r
  induction r with
  | zero =>
    intro j hj x v w R hrow hb hK hv hR
    have hj' : (shortOf ss).length = j := by omega
    have hfin : RowQ IsStr w w0.heap.size 9 1 v (shortOf ss).length ((shortOf ss).map Value.string) := by
      rw [List.take_of_length_le (by omega)] at hrow
      rw [hj']; exact hrow
    by_cases hlt : j < ss.length
    · refine .kern (n := 7) (by ((repeat (refine ⟨by kernel_rfl, fun _ => by kernel_rfl, ?_⟩)); exact True.intro)) ?_
      refine .val (i := 9) (v := .bool (decide ((j : Int) < (ss.length : Int)))) (v' := .bool true) (by kernel_rfl) (by rw [decide_eq_true (by omega)]) ?_
      refine .kern (n := 3) (by ((repeat (refine ⟨by kernel_rfl, fun _ => by kernel_rfl, ?_⟩)); exact True.intro)) ?_
      refine .val (i := 12) (v := .bool (decide ((j : Int) < 300))) (v' := .bool false) (by kernel_rfl) (by rw [decide_eq_false (by omega)]) ?_
      refine .kern (n := 11) (by ((repeat (refine ⟨by kernel_rfl, fun _ => by kernel_rfl, ?_⟩)); exact True.intro)) (.eqv (g' := gor (c.finish v) cs) (by kernel_rfl) (hnx v w R hfin hb hK hv hR))
    · refine .kern (n := 7) (by ((repeat (refine ⟨by kernel_rfl, fun _ => by kernel_rfl, ?_⟩)); exact True.intro)) ?_
      refine .val (i := 9) (v := .bool (decide ((j : Int) < (ss.length : Int)))) (v' := .bool false) (by kernel_rfl) (by rw [decide_eq_false (by omega)]) ?_
      refine .kern (n := 14) (by ((repeat (refine ⟨by kernel_rfl, fun _ => by kernel_rfl, ?_⟩)); exact True.intro)) (.eqv (g' := gor (c.finish v) cs) (by kernel_rfl) (hnx v w R hfin hb hK hv hR))
  | succ r ih =>
    intro j hj x v w R hrow hb hK hv hR
    have hj1 : j < ss.length := by omega
    have hj3 : j < 300 := by omega
    have ewrap : IntKind.i64.wrap ((j : Int) + 1) = ((j + 1 : Nat) : Int) := by rw [IntKind.wrap_i64]; omega
    obtain ⟨s, hs⟩ : ∃ s, ss[j]? = some s := ⟨ss[j], List.getElem?_eq_getElem hj1⟩
    obtain ⟨k, o, hao, hcell⟩ := hss j s hs
    have hcut : (shortOf ss)[j]? = some (cut64 s) := by
      unfold shortOf
      rw [List.getElem?_map, List.getElem?_take, if_pos hj3, hs]; rfl
    have htake : ((shortOf ss).take (j + 1)).map Value.string = ((shortOf ss).take j).map Value.string ++ [.string (cut64 s)] := strs_take_succ _ _ _ hcut
    have hcell' : w.cell? ⟨k, o + j, none⟩ = some (.string s) := hb.cell hcell
    have hOk : ¬ O k := hO _ hao
    subst hao
    refine .kern (n := 7) (by ((repeat (refine ⟨by kernel_rfl, fun _ => by kernel_rfl, ?_⟩)); exact True.intro)) ?_
    refine .val (i := 9) (v := .bool (decide ((j : Int) < (ss.length : Int)))) (v' := .bool true) (by kernel_rfl) (by rw [decide_eq_true (by omega)]) ?_
    refine .kern (n := 3) (by ((repeat (refine ⟨by kernel_rfl, fun _ => by kernel_rfl, ?_⟩)); exact True.intro)) ?_
    refine .val (i := 12) (v := .bool (decide ((j : Int) < 300))) (v' := .bool true) (by kernel_rfl) (by rw [decide_eq_true (by omega)]) ?_
    refine .kern (n := 10) (by ((repeat (refine ⟨by kernel_rfl, fun _ => by kernel_rfl, ?_⟩)); exact True.intro)) ?_
    refine .ixv (i := 2) (by kernel_rfl) ⟨by kernel_rfl, by kernel_rfl, by kernel_rfl, by kernel_rfl⟩ (t := 22) (x := .tmp 16) (y := .tmp 17) (e := 9) (n := 1) (a := ⟨k, o, none⟩) (l := ss.length) (c := c0) (k := (j : Int)) (by kernel_rfl) (by kernel_rfl) (by kernel_rfl) ⟨by omega, by omega⟩ Try.runUnderlying22 Try.sizeOf9 ?_
    rw [show (⟨k, o, none⟩ : Addr).add ((j : Int).toNat * 1) = ⟨k, o + j, none⟩ by simp [Addr.add]]
    refine .ldv (i := 3) (by kernel_rfl) ⟨by kernel_rfl, by kernel_rfl, by kernel_rfl, by kernel_rfl⟩ (t := 9) (x := .tmp 18) (a := ⟨k, o + j, none⟩) (v := .string s) (by kernel_rfl) (by kernel_rfl) Try.isAgg9 hOk hcell' ?_
    refine .kern (n := 8) (by ((repeat (refine ⟨by kernel_rfl, fun _ => by kernel_rfl, ?_⟩)); exact True.intro)) ?_
    have key : ∀ x', MFg Try.prog Post O (gBs (some ⟨k, o, none⟩) ss.length c0 c cs x' v j (cut64 s)) w := by
      intro x'
      refine .op (i := 2) (U := [26]) (St := fun u w1 => u = .slice (some ⟨w.heap.size, 0, none⟩) 1 1 ∧ ∃ tp d, w1 = Sim.re (newB w (.cells #[.string (cut64 s)] 9)) tp d) (by kernel_rfl) ⟨by kernel_rfl, by kernel_rfl, by kernel_rfl, by kernel_rfl⟩ (by kernel_rfl) (by kernel_rfl) hK (fun t ht => ?_) (fun tp d => ⟨_, _, by kernel_rfl, rfl, tp, d, rfl⟩) fun u w1 R1 hst hK1 hu1 hsub1 hsz1 => ?_
      · simp at ht; subst ht; exact .string _
      obtain ⟨rfl, tp, d, rfl⟩ := hst
      obtain ⟨i0, hi0, hz0, hz1, hz2⟩ := info_parts infoS
      refine .app (Pl := IsStr) (i := 3) (s := 25) (x := 27) (t := 22) (e := 9) (base := w0.heap.size) (ti := i0) (z := .string ⟨#[]⟩) (size := 1) (bytes := 16) (v := v) (n := j) (xs := ((shortOf ss).take j).map Value.string) (ad := ⟨w.heap.size, 0, none⟩) (c := 1) (news := [.string (cut64 s)]) (by kernel_rfl) ⟨by kernel_rfl, by kernel_rfl, by kernel_rfl, by kernel_rfl⟩ (by kernel_rfl) (by kernel_rfl)
        (by kernel_rfl) hi0 hz0 hz1 hz2 rfl (by omega) (fun x hx => by simp [Value.cells] at hx; exact ⟨_, hx⟩) (by kernel_rfl) (by kernel_rfl) hK1 (hv.mono hsub1) hu1 (hrow.newB _ tp d) rfl (fun i u hi => ?_) (fun u hu => by simp at hu; subst hu; rfl) (fun u hu => by simp at hu; exact ⟨_, hu⟩) (by simp only [maxLen]; omega) (by omega) (by have := hb.size; show w0.heap.size ≤ (newB w _).heap.size; simp [Sim.newB]; omega) fun v' w' R' hrow' hg' hK' hv' hsub' _ => ?_
      · match i with
        | 0 =>
          simp at hi; subst hi
          show (newB w (.cells #[.string (cut64 s)] 9)).cell? ((⟨w.heap.size, 0, none⟩ : Addr).add 0) = _
          simp [World.cell?, newB_new, Addr.add]
        | i + 1 => simp at hi
      refine .kern (n := 6) (by ((repeat (refine ⟨by kernel_rfl, fun _ => by kernel_rfl, ?_⟩)); exact True.intro)) ?_
      refine .val (i := 15) (v := .int .i64 (IntKind.i64.wrap ((j : Int) + 1))) (v' := .int .i64 ((j + 1 : Nat) : Int)) (by kernel_rfl) (by rw [ewrap]) ?_
      refine .kern (n := 3) (by ((repeat (refine ⟨by kernel_rfl, fun _ => by kernel_rfl, ?_⟩)); exact True.intro)) ?_
      refine .eqv (by kernel_rfl) (ih (j + 1) (by omega) (xF (nxtN Try.prog true 3 (setT (nxtN Try.prog true 6 (putG (putG (gBs (some ⟨k, o, none⟩) ss.length c0 c cs x' v j (cut64 s)) (.slice (some ⟨w.heap.size, 0, none⟩) 1 1)) v')) 15 (.int .i64 ((j + 1 : Nat) : Int)))).frame) v' w' R' (by rw [htake]; exact hrow') (bel_grow hrow (Nat.le_refl _) hb hg') hK' hv' (hR.trans (hsub1.trans hsub')))
    by_cases h64 : 64 < s.size
    · have hc : cut64 s = s.extract 0 64 := by unfold cut64; rw [if_pos h64]
      refine .val (i := 22) (v := .bool (decide ((s.size : Int) > 64))) (v' := .bool true) (by kernel_rfl) (by rw [decide_eq_true (by omega)]) ?_
      refine .kern (n := 4) (by ((repeat (refine ⟨by kernel_rfl, fun _ => by kernel_rfl, ?_⟩)); exact True.intro)) ?_
      refine .op (i := 1) (U := [23]) (St := fun u w1 => u = .string (cut64 s) ∧ ∃ tp d, w1 = Sim.re w tp d) (by kernel_rfl) ⟨by kernel_rfl, by kernel_rfl, by kernel_rfl, by kernel_rfl⟩ (by kernel_rfl) (by kernel_rfl) hK (fun t ht => ?_) (fun tp d => ⟨_, _, run_cut (by kernel_rfl) (s := s) (by kernel_rfl) (fun v => rfl) h64, by rw [hc], tp, d, rfl⟩) fun u w1 R1 hst hK1 hu1 hsub1 hsz1 => ?_
      · simp at ht; subst ht; exact vr_of (u := .string s) (by kernel_rfl) (.string s)
      obtain ⟨rfl, tp, d, rfl⟩ := hst
      refine MFg.re ?_
      refine .kern (n := 5) (by ((repeat (refine ⟨by kernel_rfl, fun _ => by kernel_rfl, ?_⟩)); exact True.intro)) (.eqv (by kernel_rfl) (key (xF (nxtN Try.prog true 5 (putG (nxtN Try.prog true 4 (setT (nxtN Try.prog true 8 (putG (putG (nxtN Try.prog true 10 (setT (nxtN Try.prog true 3 (setT (nxtN Try.prog true 7 (gHs (some ⟨k, o, none⟩) ss.length c0 c cs x v j)) 9 (.bool true))) 12 (.bool true))) (.pointer (some ⟨k, o + j, none⟩))) (.string s))) 22 (.bool true))) (.string (cut64 s)))).frame)))
    · have hc : cut64 s = s := by unfold cut64; rw [if_neg h64]
      refine .val (i := 22) (v := .bool (decide ((s.size : Int) > 64))) (v' := .bool false) (by kernel_rfl) (by rw [decide_eq_false (by omega)]) ?_
      rw [hc] at key
      refine .kern (n := 6) (by ((repeat (refine ⟨by kernel_rfl, fun _ => by kernel_rfl, ?_⟩)); exact True.intro)) (.eqv (by kernel_rfl) (key (xF (nxtN Try.prog true 6 (setT (nxtN Try.prog true 8 (putG (putG (nxtN Try.prog true 10 (setT (nxtN Try.prog true 3 (setT (nxtN Try.prog true 7 (gHs (some ⟨k, o, none⟩) ss.length c0 c cs x v j)) 9 (.bool true))) 12 (.bool true))) (.pointer (some ⟨k, o + j, none⟩))) (.string s))) 22 (.bool false))).frame)))

set_option maxRecDepth 100000 in
/-- ████ short. ████ -/
theorem m_9 {R : BR} {w : World} (hss : StrO w ao ss) (hO : ∀ a, ao = some a → ¬ O a.block) (hsz : ss.length ≤ 9223372036854775807) (hK : Known Xm O R w)
    (hnx : ∀ v w' R', RowQ IsStr w' w.heap.size 9 1 v (shortOf ss).length ((shortOf ss).map Value.string) → Bel w w' → Known Xm O R' w' → VR Xm.G R' v v → BR.Sub R R' → MFg Try.prog Post O (gor (c.finish v) cs) w') :
    MFg Try.prog Post O (gEs ao ss.length c0 c cs) w := by
  refine .kern (n := 15) (by ((repeat (refine ⟨by kernel_rfl, fun _ => by kernel_rfl, ?_⟩)); exact True.intro)) (.eqv (by kernel_rfl) (m_9_loop (c0 := c0) hss hO hsz hnx (shortOf ss).length 0 (by omega) (xF (nxtN Try.prog true 15 (gEs ao ss.length c0 c cs)).frame) (.slice none 0 0) w R (RowQ.nil _ _ _ _ _) (Bel.refl w) hK (.snil 0 0) (BR.Sub.refl R)))
end
end Go.Proofs.Ytcgjppacnhmjlaa.Sim
end
