/- Own texts: FwV, FwX, FwY, FwZ. -/
import Derived.Test.YtcgjppacnhmjlaaFmBH

section
set_option linter.unusedVariables false
set_option linter.unusedSimpArgs false
set_option linter.unusedSectionVars false
/-! treeOfParts: behind the join. -/
namespace Go.Proofs.Ytcgjppacnhmjlaa.Sim
open Go Go.Conc Go.ConcN Go.Conc.Lib Go.ConcR.Gen Go.RowKit
open Go.ConcR (KK wgBlock WgAt stA smA rd wr mk Payload DC0)
set_option linter.unusedVariables false
set_option linter.unusedSectionVars false
set_option linter.unusedSimpArgs false

theorem uni_ins {X m : List KV} (hX : Srt X) (hm : Srt m) (k : List UInt8) (v : Plc) : ins k v (uni X m) = uni X (ins k v m) := by
  refine uni_eq hX (srt_ins hm) (srt_ins (srt_uni hX)) fun e => ?_
  rw [mem_ins, mem_ins, mem_uni hm]
  constructor
  · rintro (h | ⟨h1 | ⟨h1, h2⟩, h3⟩)
    · exact .inl (.inl h)
    · exact .inl (.inr ⟨h1, h3⟩)
    · refine .inr ⟨h1, fun q hq => ?_⟩
      rcases mem_ins.1 hq with rfl | ⟨hq, _⟩
      · exact fun h => h3 h.symm
      · exact h2 q hq
  · rintro ((h | ⟨h1, h2⟩) | ⟨h1, h2⟩)
    · exact .inl h
    · exact .inr ⟨.inl h1, h2⟩
    · have hne : e.1 ≠ k := fun h => h2 (k, v) (mem_ins.2 (.inl rfl)) h.symm
      refine .inr ⟨.inr ⟨h1, fun q hq => ?_⟩, hne⟩
      by_cases e' : q.1 = k
      · rw [e']; exact fun h => hne h.symm
      · exact h2 q (mem_ins.2 (.inr ⟨hq, e'⟩))
theorem puts_uni' (ps : List PP) {X : List KV} (hX : Srt X) : uni X (puts ps []) = puts ps X := by
  have key : ∀ j, uni X (puts (ps.take j) []) = puts (ps.take j) X := by
    intro j
    induction j with
    | zero => rfl
    | succ j ih =>
      cases hp : ps[j]? with
      | none =>
        have e : ps.take (j + 1) = ps.take j := by rw [List.take_add_one, hp]; simp
        rw [e]; exact ih
      | some p =>
        rw [puts_take_succ ps j p hp, puts_take_succ ps j p hp, ← ih]
        exact (uni_ins hX (srt_puts (by simp [Srt])) _ _).symm
  have := key ps.length
  rwa [List.take_length] at this
theorem puts_app (a b : List PP) (X : List KV) : puts (a ++ b) X = puts b (puts a X) := by simp [puts, List.foldl_append]

section
variable (Pb po n cap b4 b5 : Nat) (c : Frame) (cs : List Frame) (x : Nat → Value) (j : Int) (tp : Option Addr)
/-- Behind the wait. -/
noncomputable def rest10 : Code := (sq (sq rest4).2).2
noncomputable def gQ50 : Goroutine := gor { (nxtN Try.prog true 15 (gor { Frame.enter Try.prog 50 #[vps Pb po n cap] .normal with todo := [.code rest10] } (c :: cs))).frame with tmps := #[vps Pb po n cap, x 1, x 2, x 3, ptr b4, ptr b5, x 6, x 7, x 8, .pointer tp, x 10, x 11, x 12, x 13, x 14, x 15, x 16, x 17, x 18, x 19, x 20, x 21, x 22, x 23, x 24, x 25, x 26, x 27, vps Pb po n cap, .int .i64 n, .int .i64 j, x 31, x 32, x 33, x 34, x 35, x 36, x 37, x 38, x 39, x 40, x 41, x 42, x 43, x 44, x 45, x 46, x 47, x 48, x 49] } (c :: cs)
set_option maxRecDepth 100000 in
theorem q_head (k : Fk) (Wg : Nat) (y : Nat → Value) : nxtN Try.prog true 16 (gor ((k.fWt Wg c cs y).finish (.tuple #[])) (c :: cs)) = gQ50 k.Pb k.po k.n k.cap k.b4 k.b5 c cs (xF (nxtN Try.prog true 16 (gor ((k.fWt Wg c cs y).finish (.tuple #[])) (c :: cs))).frame) 0 none := by kernel_rfl
set_option maxRecDepth 100000 in
theorem q_idle (k : Fk) (Wg : Nat) (y : Nat → Value) : Idle Try.prog true 16 (gor ((k.fWt Wg c cs y).finish (.tuple #[])) (c :: cs)) := by ((repeat (refine ⟨by kernel_rfl, fun _ => by kernel_rfl, ?_⟩)); exact True.intro)
/-- .. at the load of the errors' box. -/
noncomputable def gQ1 : Goroutine := nxtN Try.prog true 14 (setT (nxtN Try.prog true 1 (gQ50 Pb po n cap b4 b5 c cs x j tp)) 31 (.bool true))
variable (E T jn : Nat) (tq : Option Addr)
noncomputable def gQ2 : Goroutine := nxtN Try.prog true 1 (putG (gQ1 Pb po n cap b4 b5 c cs x j tp) (slc E n))
noncomputable def gQ3 : Goroutine := putG (gQ2 Pb po n cap b4 b5 c cs x j tp E) (.pointer (some ⟨E, jn, none⟩))
noncomputable def gQ4 : Goroutine := nxtN Try.prog true 6 (putG (gQ3 Pb po n cap b4 b5 c cs x j tp E jn) (.int .i64 0))
noncomputable def gQ5 : Goroutine := nxtN Try.prog true 1 (putG (gQ4 Pb po n cap b4 b5 c cs x j tp E jn) (slc T n))
noncomputable def gQ6 : Goroutine := putG (gQ5 Pb po n cap b4 b5 c cs x j tp E T jn) (.pointer (some ⟨T, jn, none⟩))
/-- .. at the call of Union. -/
noncomputable def gQ7 : Goroutine := putG (gQ6 Pb po n cap b4 b5 c cs x j tp E T jn) (.pointer tq)
set_option maxRecDepth 100000 in
theorem q1_at : AtR (gQ1 Pb po n cap b4 b5 c cs x j tp) 0 := ⟨by kernel_rfl, by kernel_rfl, by kernel_rfl, by kernel_rfl⟩
set_option maxRecDepth 100000 in
theorem q2_at : AtR (gQ2 Pb po n cap b4 b5 c cs x j tp E) 2 := ⟨by kernel_rfl, by kernel_rfl, by kernel_rfl, by kernel_rfl⟩
set_option maxRecDepth 100000 in
theorem q3_at : AtR (gQ3 Pb po n cap b4 b5 c cs x j tp E jn) 3 := ⟨by kernel_rfl, by kernel_rfl, by kernel_rfl, by kernel_rfl⟩
set_option maxRecDepth 100000 in
theorem q4_at : AtR (gQ4 Pb po n cap b4 b5 c cs x j tp E jn) 1 := ⟨by kernel_rfl, by kernel_rfl, by kernel_rfl, by kernel_rfl⟩
set_option maxRecDepth 100000 in
theorem q5_at : AtR (gQ5 Pb po n cap b4 b5 c cs x j tp E T jn) 3 := ⟨by kernel_rfl, by kernel_rfl, by kernel_rfl, by kernel_rfl⟩
set_option maxRecDepth 100000 in
theorem q6_at : AtR (gQ6 Pb po n cap b4 b5 c cs x j tp E T jn) 4 := ⟨by kernel_rfl, by kernel_rfl, by kernel_rfl, by kernel_rfl⟩
set_option maxRecDepth 100000 in
theorem q7_at : AtR (gQ7 Pb po n cap b4 b5 c cs x j tp E T jn tq) 5 := ⟨by kernel_rfl, by kernel_rfl, by kernel_rfl, by kernel_rfl⟩
end

end Go.Proofs.Ytcgjppacnhmjlaa.Sim
end

section
set_option linter.unusedVariables false
set_option linter.unusedSimpArgs false
set_option linter.unusedSectionVars false
/-! treeOfParts: the trees are joined. -/
namespace Go.Proofs.Ytcgjppacnhmjlaa.Sim
open Go Go.Conc Go.ConcN Go.Conc.Lib Go.ConcR.Gen Go.RowKit
open Go.ConcR (KK wgBlock WgAt stA smA rd wr mk Payload DC0)
set_option linter.unusedVariables false
set_option linter.unusedSectionVars false
set_option linter.unusedSimpArgs false

/-- What was there stays, whatever was drawn. -/
structure Bel (w w' : World) : Prop where
  size : w.heap.size ≤ w'.heap.size
  block : ∀ b, b < w.heap.size → w'.heap[b]? = w.heap[b]?
  os : w'.os = w.os
  output : w'.output = w.output
theorem Bel.refl (w : World) : Bel w w := ⟨Nat.le_refl _, fun _ _ => rfl, rfl, rfl⟩
theorem Bel.trans {w w1 w2 : World} (h : Bel w w1) (h' : Bel w1 w2) : Bel w w2 := ⟨Nat.le_trans h.size h'.size, fun b hb => (h'.block b (Nat.lt_of_lt_of_le hb h.size)).trans (h.block b hb), h'.os.trans h.os, h'.output.trans h.output⟩
theorem Bel.of {w w' : World} {tp : Tape} {d : Nat} (h : Below (re w tp d).heap.size (re w tp d) w') : Bel w w' := ⟨h.size, fun b hb => h.block b hb, h.os, h.output⟩
theorem Bel.re {w w' : World} (h : Bel w w') (tp : Tape) (d : Nat) : Bel w (Sim.re w' tp d) := ⟨h.size, h.block, h.os, h.output⟩
theorem Bel.cell {w w' : World} (h : Bel w w') {b o : Nat} {v : Value} (hc : w.cell? ⟨b, o, none⟩ = some v) : w'.cell? ⟨b, o, none⟩ = some v := (World.cell?_of_block (a := ⟨b, o, none⟩) (h.block b (World.block_lt_of_cell? _ _ hc))).trans hc
theorem treeN_bel {S : Nat → Prop} {n : Nat} {w w' : World} {tp : Option Addr} {l : List KV} (h : TreeN S n w tp l) (hb : Bel w w') : TreeN S n w' tp l := by
  rcases h with h | ⟨t, h1, h2⟩
  · exact .inl h
  · have h3 : RepN (fun k => S k ∧ k < w.heap.size) n w t l := h2.weaken fun k a b => ⟨a, b⟩
    exact .inr ⟨t, h1, h3.keep (fun k hk => hb.block k hk.2) (fun k hk _ => hk.1) (Nat.le_refl _)⟩
theorem treeN_re {S : Nat → Prop} {n : Nat} {w : World} {tq : Option Addr} {l : List KV} (h : TreeN S n w tq l) (tp : Tape) (d : Nat) : TreeN S n (Sim.re w tp d) tq l := treeN_bel h ((Bel.refl w).re tp d)

theorem fn53 : ∃ fn c, Try.prog.funcs[53]? = some fn ∧ (fn.name == "runtime.NumGoroutine") = false ∧ fn.body = some c := ⟨Try.f53, (Try.f53.body).getD .skip, Try.func53, by kernel_rfl, by kernel_rfl⟩
theorem in53 : Xm.G 53 := show mfs.contains 53 = true from by decide

section
variable {P : Program} {Post : Value → World → Prop} {O : Nat → Prop} {g : Goroutine} {w : World}
theorem MFg.ixv {i : Nat} {t e : TypeId} {x y : Operand} {a : Addr} {l c n : Nat} {k : Int} (hrun : g.status = .running) (h : AtR g i) (hop : (oG g).op = .indexAddr t x y) (hx : (aG g).eval x = .slice (some a) l c) (hy : (aG g).eval y = .int .i64 k) (hk : 0 ≤ k ∧ k < l) (hu : ∀ w, (underlying t).run P w = .ok (.slice e) w) (hs : ∀ w, (sizeOf e).run P w = .ok n w)
    (hn : MFg P Post O (putG g (.pointer (some (a.add (k.toNat * n))))) w) : MFg P Post O g w :=
  .step hrun fun tp d => ⟨_, _, #[], step_ix h hop hx hy hk (hu _) (hs _), Nat.le_refl _, fun e he => by simp at he, hn.re (tp := tp) (d := d)⟩
theorem MFg.val {i : Nat} {v v' : Value} (h : g = setT g i v) (hv : v = v') (hn : MFg P Post O (setT g i v') w) : MFg P Post O g w := by rw [h, hv]; exact hn
/-- A call, by its lone contract. -/
theorem MFg.call {O : Nat → Prop} {R : BR} {i : Nat} {f : FuncId} {fn : Func} {cc : Code} {args : Array Operand} {ats : Array TypeId} {Post1 : Value → World → Prop} {vals : Array Value} (h : AtR g i) (hk : g.frame.kind = .normal) (hop : (oG g).op = .call { callee := .value (.func f), args := args, argTypes := ats }) (hf : Try.prog.funcs[f]? = some fn) (hname : (fn.name == "runtime.NumGoroutine") = false) (hbody : fn.body = some cc) (hg : Xm.G f) (hv : args.map (aG g).eval = vals)
    (hK : Known Xm O R w) (ha : AVR Xm.G R vals vals) (hp : ∀ v w tp d, Post1 v w → Post1 v (Sim.re w tp d)) (hc : ∀ tp, Calls Try.prog f vals (Sim.re w tp 0) fun e w' => ∃ v, e = .returned v ∧ Post1 v w')
    (hn : ∀ v w' R', Post1 v w' → Known Xm O R' w' → VR Xm.G R' v v → BR.Sub R R' → w.heap.size ≤ w'.heap.size → MFg Try.prog Post O (putG g v) w') : MFg Try.prog Post O g w := by
  rw [h.eq]
  have := main_call (X := Xm) (P := Try.prog) (fs := mfs) (fz := true) (vs := [103]) (Post := Post) (b := g.frame) (a := aG g) (cs := g.callers) (w := w) (R := R) (ops := opsG g) (i := i) (rest := restG g) (k := kG g) (o := oG g) (Post1 := Post1) mgood mview h.op h.wanted hk hop hf hname hbody hg hK (by rw [hv]; exact ha) hp (fun tp => by rw [hv]; exact hc tp) fun v w' R' h1 h2 h3 h4 h5 => hn v w' R' h1 h2 h3 h4 h5
  exact this
end

/-- What there is while the trees are joined. -/
structure Bh (S : Nat → Prop) (O : Nat → Prop) (n T E b4 b5 : Nat) (pss : List (List PP)) (j : Nat) (tp : Option Addr) (w : World) (R : BR) : Prop where
  known : Known Xm O R w
  out : ¬ O b4 ∧ ¬ O b5 ∧ ¬ O T ∧ ¬ O E
  opn : Open S w
  c4 : w.cell? ⟨b4, 0, none⟩ = some (slc T n)
  c5 : w.cell? ⟨b5, 0, none⟩ = some (slc E n)
  tree : ∀ (i : Nat) ps, pss[i]? = some ps → ∃ n' tq, w.cell? ⟨T, i, none⟩ = some (.pointer tq) ∧ TreeN S n' w tq (puts ps []) ∧ VR Xm.G R (.pointer tq) (.pointer tq)
  errs : ∀ i, i < n → w.cell? ⟨E, i, none⟩ = some (.int .i64 0)
  whole : ∃ n', TreeN S n' w tp (puts (pss.take j).flatten [])
  vr : VR Xm.G R (.pointer tp) (.pointer tp)

section
variable {Pb po n cap b4 b5 T E : Nat} {c : Frame} {cs : List Frame} {S O : Nat → Prop} {pss : List (List PP)} {Post : Value → World → Prop} {w00 : World} {R00 : BR}

set_option maxRecDepth 100000 in
theorem m_tail (hlen : pss.length = n ∧ n ≤ 16) (hfew : ∀ ps ∈ pss, ps.length ≤ 3000)
    (hnx : ∀ tp w R, Bh S O n T E b4 b5 pss n tp w R → BR.Sub R00 R → Bel w00 w → MFg Try.prog Post O (gor (c.finish (.tuple #[.pointer tp, .int .i64 0])) cs) w) :
    ∀ (r j : Nat), r + j = n → ∀ (x : Nat → Value) (tp : Option Addr) (w : World) (R : BR), Bh S O n T E b4 b5 pss j tp w R → BR.Sub R00 R → Bel w00 w → (puts (pss.take j).flatten []).length ≤ 3000 * j → MFg Try.prog Post O (gQ50 Pb po n cap b4 b5 c cs x j tp) w := by
  intro r
  induction r with
  | zero =>
    intro j hj x tp w R hB hR hw hl
    obtain rfl : j = n := by omega
    refine .kern (n := 1) (by ((repeat (refine ⟨by kernel_rfl, fun _ => by kernel_rfl, ?_⟩)); exact True.intro)) ?_
    refine .val (i := 31) (v := .bool (decide ((j : Int) < (j : Int)))) (v' := .bool false) (by kernel_rfl) (by simp) ?_
    refine .kern (n := 12) (by ((repeat (refine ⟨by kernel_rfl, fun _ => by kernel_rfl, ?_⟩)); exact True.intro)) (.eqv (g' := gor (c.finish (.tuple #[.pointer tp, .int .i64 0])) cs) (by kernel_rfl) (hnx tp w R hB hR hw))
  | succ r ih =>
    intro j hj x tp w R hB hR hw hl
    have hjn : j < n := by omega
    have ewrap : IntKind.i64.wrap ((j : Int) + 1) = ((j + 1 : Nat) : Int) := by rw [IntKind.wrap_i64]; omega
    obtain ⟨ps, hps⟩ : ∃ ps, pss[j]? = some ps := ⟨pss[j]'(by rw [hlen.1]; exact hjn), List.getElem?_eq_getElem _⟩
    obtain ⟨nq, tq, hcT, hTq, hvq⟩ := hB.tree j ps hps
    obtain ⟨nw, hTw⟩ := hB.whole
    have hsw : Srt (puts (pss.take j).flatten []) := srt_puts (by simp [Srt])
    have hps3 := hfew ps (List.mem_of_getElem? hps)
    have hlp : (puts ps []).length ≤ 3000 := by
      have := len_puts (ps := ps) (l := []) (by simp [Srt])
      simp at this; omega
    have hflat : (pss.take (j + 1)).flatten = (pss.take j).flatten ++ ps := by rw [List.take_add_one, hps]; simp
    refine .kern (n := 1) (by ((repeat (refine ⟨by kernel_rfl, fun _ => by kernel_rfl, ?_⟩)); exact True.intro)) ?_
    refine .val (i := 31) (v := .bool (decide ((j : Int) < (n : Int)))) (v' := .bool true) (by kernel_rfl) (by rw [decide_eq_true (by omega)]) ?_
    refine .kern (n := 14) (by ((repeat (refine ⟨by kernel_rfl, fun _ => by kernel_rfl, ?_⟩)); exact True.intro)) ?_
    refine .ldv (by kernel_rfl) (q1_at Pb po n cap b4 b5 c cs x j tp) (t := 140) (x := .tmp 5) (a := ⟨b5, 0, none⟩) (v := slc E n) (by kernel_rfl) (by kernel_rfl) Try.isAgg140 hB.out.2.1 hB.c5 ?_
    refine .kern (n := 1) (by ((repeat (refine ⟨by kernel_rfl, fun _ => by kernel_rfl, ?_⟩)); exact True.intro)) ?_
    refine .ixv (by kernel_rfl) (q2_at Pb po n cap b4 b5 c cs x j tp E) (t := 140) (x := .tmp 33) (y := .tmp 34) (e := 27) (n := 1) (a := ⟨E, 0, none⟩) (l := n) (c := n) (k := (j : Int)) (by kernel_rfl) (by kernel_rfl) (by kernel_rfl) ⟨by omega, by omega⟩ Try.runUnderlying140 Try.sizeOf27 ?_
    rw [addr_add]
    refine .ldv (by kernel_rfl) (q3_at Pb po n cap b4 b5 c cs x j tp E j) (t := 27) (x := .tmp 35) (a := ⟨E, j, none⟩) (v := .int .i64 0) (by kernel_rfl) (by kernel_rfl) Try.isAgg27 hB.out.2.2.2 (hB.errs j hjn) ?_
    refine .kern (n := 6) (by ((repeat (refine ⟨by kernel_rfl, fun _ => by kernel_rfl, ?_⟩)); exact True.intro)) ?_
    refine .ldv (by kernel_rfl) (q4_at Pb po n cap b4 b5 c cs x j tp E j) (t := 101) (x := .tmp 4) (a := ⟨b4, 0, none⟩) (v := slc T n) (by kernel_rfl) (by kernel_rfl) Try.isAgg101 hB.out.1 hB.c4 ?_
    refine .kern (n := 1) (by ((repeat (refine ⟨by kernel_rfl, fun _ => by kernel_rfl, ?_⟩)); exact True.intro)) ?_
    refine .ixv (by kernel_rfl) (q5_at Pb po n cap b4 b5 c cs x j tp E T j) (t := 101) (x := .tmp 43) (y := .tmp 44) (e := 93) (n := 1) (a := ⟨T, 0, none⟩) (l := n) (c := n) (k := (j : Int)) (by kernel_rfl) (by kernel_rfl) (by kernel_rfl) ⟨by omega, by omega⟩ Try.runUnderlying101 Try.sizeOf93 ?_
    rw [addr_add]
    refine .ldv (by kernel_rfl) (q6_at Pb po n cap b4 b5 c cs x j tp E T j) (t := 93) (x := .tmp 45) (a := ⟨T, j, none⟩) (v := .pointer tq) (by kernel_rfl) (by kernel_rfl) Try.isAgg93 hB.out.2.2.1 hcT ?_
    obtain ⟨fn, cc, f1, f2, f3⟩ := fn53
    refine .call (q7_at Pb po n cap b4 b5 c cs x j tp E T j tq) (by kernel_rfl) (f := 53) (args := #[.tmp 42, .tmp 46]) (ats := match (oG (gQ7 Pb po n cap b4 b5 c cs x j tp E T j tq)).op with | .call c => c.argTypes | _ => #[]) (by kernel_rfl) f1 f2 f3 in53 (vals := #[.pointer tp, .pointer tq]) (by kernel_rfl) hB.known ⟨rfl, fun i v v' a b => ?_⟩
      (Post1 := fun v w' => ∃ n' tp', v = .pointer tp' ∧ TreeN S n' w' tp' (puts (pss.take (j + 1)).flatten []) ∧ Bel w w') (fun v w' tp d ⟨n', tp', h1, h2, h3⟩ => ⟨n', tp', h1, treeN_re h2 tp d, h3.re tp d⟩) (fun tape => ?_) fun v w' R' ⟨n', tp', h1, h2, h3⟩ hK' hv' hsub hsz => ?_
    · rw [a] at b; cases b
      match i with
      | 0 => simp at a; subst a; exact hB.vr
      | 1 => simp at a; subst a; exact hvq
      | i + 2 => simp at a
    · refine (unionTree_any (S := S) (w := re w tape 0) (fun k hk => hB.opn k hk) (treeN_re hTw tape 0) (treeN_re hTq tape 0) (by omega)).mono ?_
      rintro e w' ⟨n', tp', rfl, h1, h2⟩
      refine ⟨_, rfl, n', tp', rfl, ?_, Bel.of h2⟩
      rw [hflat, puts_app, ← puts_uni' ps hsw]
      exact h1
    · subst h1
      refine .kern (n := 5) (by ((repeat (refine ⟨by kernel_rfl, fun _ => by kernel_rfl, ?_⟩)); exact True.intro)) ?_
      refine .val (i := 48) (v := .int .i64 (IntKind.i64.wrap ((j : Int) + 1))) (v' := .int .i64 ((j + 1 : Nat) : Int)) (by kernel_rfl) (by rw [ewrap]) ?_
      refine .kern (n := 5) (by ((repeat (refine ⟨by kernel_rfl, fun _ => by kernel_rfl, ?_⟩)); exact True.intro)) ?_
      refine .eqv (by kernel_rfl) (ih (j + 1) (by omega) (xF (nxtN Try.prog true 5 (setT (nxtN Try.prog true 5 (putG (gQ7 Pb po n cap b4 b5 c cs x j tp E T j tq) (.pointer tp'))) 48 (.int .i64 ((j + 1 : Nat) : Int)))).frame) tp' w' R' ⟨hK', hB.out, fun k hk => hB.opn k (Nat.le_trans h3.size hk), h3.cell hB.c4, h3.cell hB.c5, fun i ps hi => ?_, fun i hi => h3.cell (hB.errs i hi), ⟨n', h2⟩, hv'⟩ (hR.trans hsub) (hw.trans h3) ?_)
      · obtain ⟨a, b, c1, c2, c3⟩ := hB.tree i ps hi
        exact ⟨a, b, h3.cell c1, treeN_bel c2 h3, c3.mono hsub⟩
      · rw [hflat, puts_app]
        have := len_puts (ps := ps) hsw
        omega
end

end Go.Proofs.Ytcgjppacnhmjlaa.Sim
end

section
set_option linter.unusedVariables false
set_option linter.unusedSimpArgs false
set_option linter.unusedSectionVars false
/-! treeOfParts, whole. -/
namespace Go.Proofs.Ytcgjppacnhmjlaa.Sim
open Go Go.Conc Go.ConcN Go.Conc.Lib Go.ConcR.Gen Go.RowKit
open Go.ConcR (KK wgBlock WgAt stA smA rd wr mk Payload DC0)
set_option linter.unusedVariables false
set_option linter.unusedSectionVars false
set_option linter.unusedSimpArgs false

/-- The parts, as goroutine 0 finds them. -/
structure PartsAt (K : Nat → Prop) (w : World) (Pb po : Nat) (vs : List Value) (pss : List (List PP)) : Prop where
  len : vs.length ≤ 16 ∧ pss.length = vs.length
  keys : ∀ ps ∈ pss, ps.length ≤ 3000 ∧ ∀ q ∈ ps, q.1.size ≤ 64
  pb : K Pb
  cell : ∀ (i : Nat) v, vs[i]? = some v → w.cell? ⟨Pb, po + i, none⟩ = some v
  parts : ∀ (i : Nat) v ps, vs[i]? = some v → pss[i]? = some ps → PartAt K w v ps
theorem PartsAt.keep {K K' : Nat → Prop} {w w' : World} {Pb po : Nat} {vs : List Value} {pss : List (List PP)} (h : PartsAt K w Pb po vs pss) (hK : ∀ b, K b → K' b) (hs : ∀ b, K b → SameC w w' b) : PartsAt K' w' Pb po vs pss :=
  ⟨h.len, h.keys, hK _ h.pb, fun i v hi => same_cell (hs _ h.pb) (h.cell i v hi), fun i v ps h1 h2 => ((h.parts i v ps h1 h2).keep hs).mono hK⟩

/-- What a call of treeOfParts leaves of what was known. -/
structure Left (vs : List Value) (O O' : Nat → Prop) (R R' : BR) (w w' : World) : Prop where
  known : Known Xm O' R' w'
  sub : BR.Sub R R'
  same : ∀ b, b < w.heap.size → ¬ O b → SameC w w' b
  exact : ∀ b, b < w.heap.size → ¬ O b → (∀ v ∈ vs, ¬ InS v b) → w'.heap[b]? = w.heap[b]?
  size : w.heap.size ≤ w'.heap.size
  os : w'.os = w.os
  output : w'.output = w.output
  shun : ∀ b, O b → O' b
  fresh : ∀ b, O' b → O b ∨ w.heap.size ≤ b

section
variable {Pb po n cap : Nat} {vs : List Value} {pss : List (List PP)} {Post : Value → World → Prop} {O : Nat → Prop} {c : Frame} {cs : List Frame} {w : World} {R : BR}
/-- ████ treeOfParts. ████ -/
theorem m_50 (hn : vs.length = n) (hK : Known Xm O R w) (hP : PartsAt (fun b => R b b) w Pb po vs pss)
    (hnx : ∀ O' R' w' tp n', Left vs O O' R R' w w' → TreeN (fun b => ¬ R b b) n' w' tp (puts pss.flatten []) → VR Xm.G R' (.pointer tp) (.pointer tp) → MFg Try.prog Post O' (gor (c.finish (.tuple #[.pointer tp, .int .i64 0])) cs) w') :
    MFg Try.prog Post O (gE0 Pb po n cap c cs) w := by
  have hlen : vs.length = n ∧ pss.length = n ∧ n ≤ 16 := ⟨hn, by rw [hP.len.2, hn], by rw [← hn]; exact hP.len.1⟩
  have hRK : ∀ b, R b b → b < w.heap.size ∧ ¬ O b := fun b hb => ⟨(hK.wr.lt hb).1, hK.apart b hb⟩
  refine m_fork (K0 := fun b => b < w.heap.size ∧ ¬ O b) hlen hP.keys (fun b hb => hb) hK.low (hRK _ hP.pb) hP.cell (fun i v ps h1 h2 => (hP.parts i v ps h1 h2).mono hRK) hK.wr.low.1 fun m L x w' hm hL hsame hex h4 h5 hsz hos hout hF hJ => ?_
  obtain ⟨R', hA⟩ := join_known hlen hK hP.parts hm (fun b hb => hL b (hRK b hb)) (fun b hb => hsame b (hRK b hb)) (fun b hb => hex b (hRK b hb)) h4 h5 hsz hJ
  refine .kern (n := 16) (q_idle c cs (fk w Pb po n cap vs pss) (w.heap.size + 4) x) ?_
  rw [q_head]
  have hO : ∀ b, w.heap.size ≤ b → b ≠ w.heap.size + 4 → ¬ (O b ∨ b = w.heap.size + 4) := fun b h1 h2 h => h.elim (fun h => by have := hK.low b h; omega) h2
  have := m_tail (Pb := Pb) (po := po) (n := n) (cap := cap) (b4 := w.heap.size + 1) (b5 := w.heap.size + 3) (T := w.heap.size) (E := w.heap.size + 2) (c := c) (cs := cs) (S := fun b => ¬ R b b) (O := fun b => O b ∨ b = w.heap.size + 4) (pss := pss) (Post := Post) (w00 := w') (R00 := R') ⟨hlen.2.1, hlen.2.2⟩ (fun ps h => (hP.keys ps h).1) (fun tp w1 R1 hB hR hw => ?_) n 0 (by omega) (xF (nxtN Try.prog true 16 (gor (((fk w Pb po n cap vs pss).fWt (w.heap.size + 4) c cs x).finish (.tuple #[])) (c :: cs))).frame) none w' R'
    ⟨hA.known, ⟨hO _ (by omega) (by omega), hO _ (by omega) (by omega), hO _ (by omega) (by omega), hO _ (by omega) (by omega)⟩, fun k hk h => by have := (hK.wr.lt h).1; omega, hA.c4, hA.c5, hA.tree, hA.errs, ⟨0, .inl ⟨rfl, rfl⟩⟩, .pnil⟩ (BR.Sub.refl R') (Bel.refl w') (by simp [puts])
  · exact this
  · obtain ⟨nw, hT⟩ := hB.whole
    rw [show pss.take n = pss by rw [← hlen.2.1]; exact List.take_length] at hT
    refine hnx _ R1 w1 tp nw ⟨hB.known, hA.sub.trans hR, fun b hb hO' => (hsame b ⟨hb, hO'⟩).trans (.of_eq (hw.block b (by omega))), fun b hb hO' hno => (hw.block b (by omega)).trans (hex b ⟨hb, hO'⟩ hno), by have := hw.size; omega, hw.os.trans hos, hw.output.trans hout, fun b => .inl, fun b h => h.imp id fun e => by omega⟩ hT hB.vr
theorem Left.sameR {O' : Nat → Prop} {R' : BR} {w' : World} (h : Left vs O O' R R' w w') (hK : Known Xm O R w) : ∀ b, R b b → SameC w w' b := fun b hb => h.same b (hK.wr.lt hb).1 (hK.apart b hb)
end

end Go.Proofs.Ytcgjppacnhmjlaa.Sim
end

section
set_option linter.unusedVariables false
set_option linter.unusedSimpArgs false
set_option linter.unusedSectionVars false
/-! Trees and indexes among what is known; Fill. -/
namespace Go.Proofs.Ytcgjppacnhmjlaa.Sim
open Go Go.Conc Go.ConcN Go.Conc.Lib Go.ConcR.Gen Go.RowKit
open Go.ConcR (KK wgBlock WgAt stA smA rd wr mk Payload DC0)
set_option linter.unusedVariables false
set_option linter.unusedSectionVars false
set_option linter.unusedSimpArgs false

section
variable {O O' S : Nat → Prop} {R R' : BR} {w w' : World} {vs : List Value}
/-- A tree that is known is made of what is known. -/
theorem rep_known (hK : Known Xm O R w) {n b : Nat} {l : List KV} (hb : R b b) (h : RepN S n w b l) : RepN (fun k => S k ∧ R k k) n w b l :=
  wr_rep (Sl := S) (Sr := fun k => S k ∧ R k k) hK.wr (fun _ _ _ h => h.elim) (fun a b hab hs => by
    have e := hK.diag a b hab
    subst e
    exact ⟨hs, hab⟩) n hb h
theorem tree_known (hK : Known Xm O R w) {n : Nat} {tp : Option Addr} {l : List KV} (hv : VR Xm.G R (.pointer tp) (.pointer tp)) (h : TreeN S n w tp l) : TreeN (fun k => S k ∧ R k k) n w tp l := by
  rcases h with h | ⟨t, rfl, h2⟩
  · exact .inl h
  · obtain ⟨t', q1, q2⟩ := vr_ptr hv
    cases q2
    exact .inr ⟨t, rfl, rep_known hK q1 h2⟩
theorem idx_vr (hK : Known Xm O R w) {x : Nat} {tp : Option Addr} {e : TypeId} {f : Nat × Nat} (hx : R x x) (h : w.heap[x]? = some (.cells #[.pointer tp] e f)) : VR Xm.G R (.pointer tp) (.pointer tp) := by
  obtain ⟨v', e1, e2⟩ := wr_cell hK.wr hx (show w.cell? ⟨x, 0, none⟩ = some (.pointer tp) by simp [World.cell?, h])
  rw [show w.cell? ⟨x, 0, none⟩ = some (.pointer tp) by simp [World.cell?, h]] at e1
  cases e1
  exact e2
theorem index_known (hK : Known Xm O R w) {x : Nat} {l : List KV} (hx : R x x) (h : IndexAt S w x l) : IndexAt (fun k => S k ∧ R k k) w x l := by
  obtain ⟨n, tp, h1, h2⟩ := h.tree
  exact ⟨⟨n, tp, h1, tree_known hK (idx_vr hK hx h1) h2⟩, fun hh => h.out hh.1, h.few⟩

/-- A block with a pointer in it is no part. -/
theorem not_part {Pb po : Nat} {pss : List (List PP)} (hP : PartsAt (fun b => R b b) w Pb po vs pss) {b : Nat} {c : Array Value} {e : TypeId} {f : Nat × Nat} (hb : w.heap[b]? = some (.cells c e f)) {i : Nat} {a : Option Addr} (hi : c[i]? = some (.pointer a)) : ∀ v ∈ vs, ¬ InS v b := by
  intro v hv hin
  obtain ⟨j, hj⟩ := List.getElem?_of_mem hv
  have hlt : j < pss.length := by rw [hP.len.2]; exact (List.getElem?_eq_some_iff.1 hj).1
  rcases hP.parts j v _ hj (List.getElem?_eq_getElem hlt) with ⟨_, e'⟩ | ⟨k, o, cp, cc, e', f', p1, p2, p3, p4, p5, p6⟩
  · obtain ⟨o, l, c, q⟩ := hin; rw [e'] at q; cases q
  · obtain ⟨o, l, c', q⟩ := hin
    rw [p2] at q; cases q
    rw [hb] at p4; cases p4
    rcases p6 _ (Array.mem_of_getElem? hi) with ⟨s, q⟩ | ⟨k, n, q⟩ <;> cases q
theorem left_rep {Pb po : Nat} {pss : List (List PP)} (hK : Known Xm O R w) (hP : PartsAt (fun b => R b b) w Pb po vs pss) (hL : Left vs O O' R R' w w') : ∀ {n b : Nat} {l : List KV}, RepN (fun k => S k ∧ R k k) n w b l → RepN (fun k => S k ∧ R k k) n w' b l
  | 0, _, _, h => h.elim
  | n + 1, b, l, ⟨pre, vp, bv, ov, cs, xs, gs, hN, hO, hR, hl, hC, hs⟩ => by
    have hex : w'.heap[b]? = w.heap[b]? := hL.exact b (hK.wr.lt hN.inS.2).1 (hK.apart b hN.inS.2) (not_part hP hN.blk (i := 1) (a := vp) rfl)
    refine ⟨pre, vp, bv, ov, cs, xs, gs, ⟨hN.inS, hex.trans hN.blk, hN.short⟩, ?_, ?_, hl, fun i c g h1 h2 => left_rep hK hP hL (hC i c g h1 h2), hs⟩
    · cases ov with
      | none => exact hO
      | some v =>
        obtain ⟨vb, h1, h2, h3⟩ := hO
        have := hL.sameR hK vb h1.2
        exact ⟨vb, h1, h2, same_cell this h3.1, same_cell this h3.2.1, same_cell this h3.2.2⟩
    · rcases hR with h | ⟨k, o, cap, h1, h2, h3, h4, h5, h6⟩
      · exact .inl h
      · exact .inr ⟨k, o, cap, h1, h2, h3, h4, fun i c h => same_cell (hL.sameR hK k h1.2) (h5 i c h), h6⟩
theorem left_index {Pb po : Nat} {pss : List (List PP)} (hK : Known Xm O R w) (hP : PartsAt (fun b => R b b) w Pb po vs pss) (hL : Left vs O O' R R' w w') {x : Nat} {l : List KV} (hx : R x x) (h : IndexAt S w x l) : IndexAt S w' x l := by
  obtain ⟨⟨n, tp, h1, h2⟩, h3, h4⟩ := index_known hK hx h
  refine ⟨⟨n, tp, (hL.exact x (hK.wr.lt hx).1 (hK.apart x hx) (not_part hP h1 (i := 0) (a := tp) rfl)).trans h1, ?_⟩, h.out, h4⟩
  rcases h2 with h2 | ⟨t, e, h2⟩
  · exact .inl h2
  · exact .inr ⟨t, e, (left_rep hK hP hL h2).weaken fun k hk _ => hk.1⟩

/-- A block more. -/
theorem Known.add (hK : Known Xm O R w) {o : Obj} (hold : ∀ b, b < w.heap.size → w'.heap[b]? = w.heap[b]?) (hnew : w'.heap[w.heap.size]? = some o) (hb : BlkR Xm.vw Xm.G (R.add w.heap.size w.heap.size) (fun _ _ => False) w.heap.size o o) (hsz : w.heap.size ≤ w'.heap.size) : Known Xm O (R.add w.heap.size w.heap.size) w' := by
  have hlow := hK.wr.low.1
  refine ⟨fun a b h => h.elim (hK.diag a b) fun h => h.1.trans h.2.symm, ⟨hK.wr.fine.add (fun b h => ?_) (fun a h => ?_) hlow hlow, ⟨by omega, by omega⟩, fun a i h => h.elim, fun a b h => ?_⟩, fun a h => ?_, fun a h => by have := hK.low a h; omega⟩
  · have := (hK.wr.lt h).1; omega
  · have := (hK.wr.lt h).2; omega
  · rcases h with h | ⟨rfl, rfl⟩
    · obtain ⟨o1, o2, q1, q2, q3⟩ := hK.wr.blk a b h
      exact ⟨o1, o2, (hold a (hK.wr.lt h).1).trans q1, (hold b (hK.wr.lt h).2).trans q2, q3.mono (BR.sub_add _ _ _)⟩
    · exact ⟨o, o, hnew, hnew, hb⟩
  · rcases h with h | ⟨h, _⟩
    · exact hK.apart a h
    · exact fun hO => by have := hK.low a hO; omega
end

end Go.Proofs.Ytcgjppacnhmjlaa.Sim
end
