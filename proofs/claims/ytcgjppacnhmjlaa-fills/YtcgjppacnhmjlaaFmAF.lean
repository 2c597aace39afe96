/- Own texts: SimR, SimS, SimV, SimX. -/
import Derived.Test.YtcgjppacnhmjlaaFmAE
import Derived.Conc.Beside
import Derived.Conc.Own4

section
set_option linter.unusedVariables false
set_option linter.unusedSimpArgs false
set_option linter.unusedSectionVars false
/-! Goroutine 0 beside goroutines that only leave: what its lone contracts say of its steps there. -/
namespace Go.Proofs.Ytcgjppacnhmjlaa.Sim
open Go Go.Conc
open Go.ConcN (sumTo upd sumTo_upd upd_ne upd_same)
set_option linter.unusedVariables false

theorem ops_mem {g : Nat} {fn : FuncId} {pos : String} {es : Array Event} {op : MemOp} (h : op ∈ MemOp.ofEvents g fn pos es) : ∃ e ∈ es, op = { g, fn, pos, act := .ofEvent e } := by
  rw [ofEvents_eq] at h
  obtain ⟨e, he, rfl⟩ := Array.mem_map.1 h
  exact ⟨e, he, rfl⟩
theorem ops_g {g : Nat} {fn : FuncId} {pos : String} {es : Array Event} {op : MemOp} (h : op ∈ MemOp.ofEvents g fn pos es) : op.g = g := by
  rw [ofEvents_eq] at h
  obtain ⟨e, he, rfl⟩ := Array.mem_map.1 h
  rfl
/-- The places of these blocks are shunned. -/
def ShunO (O : Nat → Prop) : Loc → Prop := fun l => ∃ a, l = .cell a ∧ O a.block

/-- .. and what is no memory. -/
def ShM (O : Nat → Prop) : Loc → Prop := fun l => ShunO O l ∨ l.isMemory = false
/-- What is held of the trace while goroutine 0 is beside leavers. -/
structure PQ (O : Nat → Prop) (B N : Nat) (t : Trace) : Prop where
  past : Past (ShunO O) B t
  quiet : Quiet (ShM O) t
  gs : ∀ op ∈ t, op.g < N
  nrel : ∀ op ∈ t, ∀ a, op.act ≠ .mark (.release a)
/-- What goroutine 0 may list meanwhile. -/
structure EvM (O : Nat → Prop) (B : Nat) (e : Event) : Prop where
  el : EvL (ShunO O) B e
  rel : ∀ a, e.loc ≠ .mark (.release a)
  out : e.loc ≠ .output
  gor : e.loc ≠ .goroutines
theorem EvM.quiet {O : Nat → Prop} {B : Nat} {e : Event} (h : EvM O B e) {x : Touch} (hx : (MemAct.ofEvent e).touch? = some x) (hs : ShM O x.loc) : x.kind ≠ .plain := by
  rcases hs with hs | hs
  · exact h.el.1 x hx hs
  · obtain ⟨loc, wr, sy⟩ := e
    have ho := h.out
    have hg := h.gor
    cases loc with
    | cell a => simp only [MemAct.ofEvent, MemAct.touch?, Option.some.injEq] at hx; subst hx; cases hs
    | obj r =>
      cases wr <;> cases sy <;> simp only [MemAct.ofEvent, MemAct.touch?, Option.some.injEq] at hx <;> first | (cases hx; done) | (cases hx; cases hs)
    | mark m => cases m <;> simp only [MemAct.ofEvent, MemAct.touch?, Option.some.injEq] at hx <;> first | (cases hx; done) | (cases hx; intro e; cases e)
    | output => exact absurd rfl ho
    | goroutines => exact absurd rfl hg
theorem ofEvent_rel {e : Event} {a : Addr} (h : ∀ a, e.loc ≠ .mark (.release a)) : MemAct.ofEvent e ≠ .mark (.release a) := by
  obtain ⟨loc, wr, sy⟩ := e
  cases loc with
  | obj r => cases wr <;> cases sy <;> simp [MemAct.ofEvent]
  | mark m => intro x; simp only [MemAct.ofEvent] at x; cases x; exact h a rfl
  | _ => simp [MemAct.ofEvent]

/-- From here the run ends well. -/
def Fin (P : Program) (Post : Value → World → Prop) (m : Machine) (t : Trace) : Prop :=
  ∃ N last o w' t', runNT P (N + 1) m t = (.ended o w', t') ∧ runN P N m = .next last ∧ step P last = .ended o w' ∧ Go.Conc.Good P Post last o w' t'

section
variable {P : Program} {Post : Value → World → Prop} {m m' : Machine} {t : Trace} {ops : Array MemOp}

theorem Fin.next (h : stepT P m = (.next m', ops)) (hf : Fin P Post m' (t ++ ops)) : Fin P Post m t := by
  obtain ⟨N, last, o, w', t', h1, h2, h3, h4⟩ := hf
  have hs : step P m = .next m' := by rw [step, h]
  refine ⟨N + 1, last, o, w', t', ?_, ?_, h3, h4⟩
  · rw [runNT, h]; exact h1
  · simp only [runN, hs]; exact h2
theorem Fin.end {o : Outcome} {w : World} (h : stepT P m = (.ended o w, ops)) (hg : Go.Conc.Good P Post m o w (t ++ ops)) : Fin P Post m t :=
  ⟨0, m, o, w, t ++ ops, by simp [runNT, h], rfl, by simp [step, h], hg⟩

variable {gs : Array Goroutine} {w : World} {sl : Option (Nat × Nat)}

/-- Whoever is picked. -/
theorem Fin.pick (ha : ∀ g ∈ gs, awake g) (some1 : ∃ (i : Nat) (g : Goroutine), gs[i]? = some g ∧ g.status = .running)
    (h : ∀ i g d sl', gs[i]? = some g → g.status = .running → (∃ m' ops, runT P (crowd gs (w.at d) sl') i = (.next m', ops) ∧ Fin P Post m' (t ++ ops)) ∨
      ∃ o w' ops, runT P (crowd gs (w.at d) sl') i = (.ended o w', ops) ∧ Go.Conc.Good P Post (crowd gs w sl) o w' (t ++ ops)) : Fin P Post (crowd gs w sl) t := by
  obtain ⟨i, g, d, sl', hi, hg, hst⟩ := crowd_pick (P := P) (w := w) (sl := sl) ha some1
  rcases h i g d sl' hi hg with ⟨m', ops, h1, h2⟩ | ⟨o, w', ops, h1, h2⟩
  · exact Fin.next (hst.trans h1) h2
  · exact Fin.end (hst.trans h1) h2
theorem at_re (w : World) (tp : Tape) (d d' : Nat) : (re w tp d).at d' = re w tp d' := rfl
theorem at_eq (w : World) (d : Nat) : w.at d = re w w.tape d := rfl

/-- A leaver's step. -/
theorem leaver_step {O : Nat → Prop} {B : Nat} {q : Nat → Nat} (hL : Leavers P t gs q) (hP : PQ O B gs.size t) {i : Nat} {g a : Goroutine} (hpos : 0 < i) (hi : gs[i]? = some g) (hg : g.status = .running) (h0 : gs[0]? = some a) (ha : a.status = .running) :
    ∃ gs' ops q', runT P (crowd gs w sl) i = (.next (crowd gs' w sl), ops) ∧ gs'[0]? = some a ∧ Leavers P (t ++ ops) gs' q' ∧ PQ O B gs'.size (t ++ ops) ∧ sumTo gs'.size q' < sumTo gs.size q ∧ gs'.size = gs.size := by
  have hq := hL.old i g hpos hi
  have hi0 : (i == 0) = false := by simp; omega
  have hlt : i < gs.size := (Array.getElem?_eq_some_iff.1 hi).1
  cases hqi : q i with
  | zero => rw [hqi] at hq; rw [hq.1] at hg; cases hg
  | succ k =>
    rw [hqi] at hq
    rcases hq with ⟨hf, _⟩ | ⟨_, g', es, hm, hstp, hq'⟩
    · rw [hf] at hg; cases hg
    have hrunT := runT_crowd_go (P := P) (sl := sl) (i := i) hi (by rw [hi0]; exact hstp w)
    have hsum : sumTo gs.size (upd q i k) + (k + 1) = sumTo gs.size q + k := by
      have := sumTo_upd q k id hlt
      simpa [hqi] using this
    have hsz : ((gs.map (woken P g g' w)).setIfInBounds i g').size = gs.size := by simp
    refine ⟨_, _, upd q i k, hrunT, ?_, ⟨fun j x hj hx => ?_, fun j hj => ?_⟩, ⟨hP.past.mute (by omega) hm, hP.quiet.app fun op hop x hx _ => by (obtain ⟨e, he, rfl⟩ := ops_mem hop; rw [touch_mute (hm e he)] at hx; cases hx), fun op hop => by (rw [hsz]; rcases Array.mem_append.1 hop with h | h; exact hP.gs op h; rw [ops_g h]; exact hlt), fun op hop a => by (rcases Array.mem_append.1 hop with h | h; exact hP.nrel op h a; (obtain ⟨e, he, rfl⟩ := ops_mem h; exact ofEvent_rel fun a x => by (have := hm e he; obtain ⟨loc, wr, sy⟩ := e; dsimp only at x; subst x; cases this)))⟩, by rw [hsz]; omega, hsz⟩
    · rw [Array.getElem?_setIfInBounds_ne (by omega), Array.getElem?_map, h0]
      simp [woken_run ha]
    · by_cases hji : i = j
      · subst hji
        rw [Array.getElem?_setIfInBounds_self_of_lt (by simpa using hlt)] at hx
        obtain rfl := Option.some.inj hx
        rw [upd_same, Deaf_own]
        exact hq'
      · rw [Array.getElem?_setIfInBounds_ne hji, Array.getElem?_map] at hx
        obtain ⟨y, hy, rfl⟩ := Option.map_eq_some_iff.1 hx
        have hqj := hL.old j y hj hy
        rw [woken_quitsD hqj, upd_ne q k (Ne.symm hji), Deaf_other t hji _ (fun op hop => ops_g hop)]
        exact hqj
    · rw [Deaf_other t (g' := i) (by simp at hj; omega) _ (fun op hop => ops_g hop)]
      exact hL.above j (by simpa using hj)

/-- A step of goroutine 0's. -/
theorem zero_step {O : Nat → Prop} {B B' : Nat} {q : Nat → Nat} (hL : Leavers P t gs q) (hP : PQ O B gs.size t) (hB : B ≤ B') {a a' : Goroutine} {w' : World} {es : Array Event} (h0 : gs[0]? = some a) (hs : stepG P true a w = .go a' w' es) (he : ∀ e ∈ es, EvM O B' e) :
    ∃ gs' ops, runT P (crowd gs w sl) 0 = (.next (crowd gs' w' sl), ops) ∧ gs'[0]? = some a' ∧ Leavers P (t ++ ops) gs' q ∧ PQ O B' gs'.size (t ++ ops) ∧ gs'.size = gs.size := by
  have hlt : 0 < gs.size := (Array.getElem?_eq_some_iff.1 h0).1
  have hrunT := runT_crowd_go (P := P) (sl := sl) (i := 0) h0 (show stepG P (0 == 0) a w = _ from hs)
  have hsz : ((gs.map (woken P a a' w')).setIfInBounds 0 a').size = gs.size := by simp
  refine ⟨_, _, hrunT, by simp [hlt], ⟨fun j x hj hx => ?_, fun j hj => ?_⟩, ⟨(hP.past.mono hB).own fun e hm => (he e hm).el, hP.quiet.app fun op hop x hx hs => by (obtain ⟨e, hm, rfl⟩ := ops_mem hop; exact ⟨(he e hm).quiet hx hs, fun _ => rfl⟩), fun op hop => by (rw [hsz]; rcases Array.mem_append.1 hop with h | h; exact hP.gs op h; rw [ops_g h]; exact hlt), fun op hop a => by (rcases Array.mem_append.1 hop with h | h; exact hP.nrel op h a; (obtain ⟨e, hm, rfl⟩ := ops_mem h; exact ofEvent_rel (he e hm).rel))⟩, hsz⟩
  · rw [Array.getElem?_setIfInBounds_ne (by omega), Array.getElem?_map] at hx
    obtain ⟨y, hy, rfl⟩ := Option.map_eq_some_iff.1 hx
    have hq := hL.old j y hj hy
    rw [woken_quitsD hq, Deaf_other t (g' := 0) (by omega) _ (fun op hop => ops_g hop)]
    exact hq
  · rw [Deaf_other t (g' := 0) (by simp at hj; omega) _ (fun op hop => ops_g hop)]
    exact hL.above j (by simpa using hj)
end

/-- Goroutine 0 stands so beside leavers: the run ends well. -/
def MFin (P : Program) (Post : Value → World → Prop) (O : Nat → Prop) (fr : Frame) (cs : List Frame) (w : World) : Prop :=
  ∀ tp d gs sl t q, gs[0]? = some (gor fr cs) → Leavers P t gs q → PQ O w.heap.size gs.size t → Fin P Post (crowd gs (re w tp d) sl) t

theorem awake_of_leavers {P : Program} {t : Trace} {gs : Array Goroutine} {q : Nat → Nat} {a : Goroutine} (hL : Leavers P t gs q) (h0 : gs[0]? = some a) (ha : a.status = .running) : ∀ g ∈ gs, awake g := by
  intro g hg
  obtain ⟨i, hi, rfl⟩ := Array.mem_iff_getElem.1 hg
  rcases Nat.eq_zero_or_pos i with rfl | hpos
  · have : gs[0] = a := by simpa [Array.getElem?_eq_getElem hi] using h0
    rw [this]; exact awake_of (.inl ha)
  · exact awake_of ((hL.old i _ hpos (Array.getElem?_eq_getElem hi)).status.elim .inl fun x => .inr (.inr x))

/-- One step of goroutine 0's own, whatever has been drawn. -/
theorem MFin.of_step {P : Program} {Post : Value → World → Prop} {O : Nat → Prop} {fr : Frame} {cs : List Frame} {w : World}
    (h : ∀ tp d, ∃ fr' cs' w' es, stepG P true (gor fr cs) (re w tp d) = .go (gor fr' cs') w' es ∧ w.heap.size ≤ w'.heap.size ∧ (∀ e ∈ es, EvM O w'.heap.size e) ∧ MFin P Post O fr' cs' w') : MFin P Post O fr cs w := by
  intro tp d gs sl t q h0 hL hP
  generalize hμ : sumTo gs.size q = μ
  induction μ using Nat.strongRecOn generalizing d gs sl t q with
  | _ μ ih =>
    refine Fin.pick (awake_of_leavers hL h0 rfl) ⟨0, _, h0, rfl⟩ fun i g d' sl' hi hg => .inl ?_
    rw [at_re]
    rcases Nat.eq_zero_or_pos i with rfl | hpos
    · obtain rfl : g = gor fr cs := by rw [h0] at hi; exact (Option.some.inj hi).symm
      obtain ⟨fr', cs', w', es, h1, h2, h3, h4⟩ := h tp d'
      obtain ⟨gs', ops, r1, r2, r3, r4, r5⟩ := zero_step (sl := sl') hL hP h2 h0 h1 h3
      refine ⟨_, _, r1, ?_⟩
      have := h4 w'.tape w'.drawn gs' sl' (t ++ ops) q r2 r3 r4
      rwa [re_self] at this
    · obtain ⟨gs', ops, q', r1, r2, r3, r4, r5, r6⟩ := leaver_step (w := re w tp d') (sl := sl') hL hP hpos hi hg h0 rfl
      exact ⟨_, _, r1, ih _ (by rw [← hμ]; exact r5) d' gs' sl' (t ++ ops) q' r2 r3 r4 rfl⟩

section
variable {X : Ctx} {P : Program} {fs vs : List Nat} {fz : Bool} {Post : Value → World → Prop} {O : Nat → Prop}

theorem seen_mem {P : Program} {fn : FuncId} {es : Array Event} {e : Event} (h : e ∈ seen P fn es) : e ∈ es := by
  unfold seen at h
  obtain ⟨l⟩ := es
  simp only [List.foldl_toArray] at h
  have key : ∀ (l : List Event) (q : Bool) (kept : Array Event), e ∈ (l.foldl (fun (x : Bool × Array Event) e => match e.loc with
      | .mark (.extern f) => ((P.funcs[f]?).any (·.norace), x.2)
      | _ => (x.1, if x.1 && !e.sync then x.2 else x.2.push e)) (q, kept)).2 → e ∈ kept ∨ e ∈ l := by
    intro l
    induction l with
    | nil => intro q kept h; exact .inl h
    | cons y l ih =>
      intro q kept h
      rw [List.foldl_cons] at h
      have : ∃ q2 k2, (match y.loc with
        | .mark (.extern f) => ((P.funcs[f]?).any (·.norace), kept)
        | _ => (q, if q && !y.sync then kept else kept.push y)) = (q2, k2) ∧ (k2 = kept ∨ k2 = kept.push y) := by
        split
        · exact ⟨_, _, rfl, .inl rfl⟩
        · refine ⟨_, _, rfl, ?_⟩
          split
          · exact .inl rfl
          · exact .inr rfl
      obtain ⟨q2, k2, e1, e2⟩ := this
      dsimp only at h
      rw [e1] at h
      rcases ih q2 k2 h with h | h
      · rcases e2 with rfl | rfl
        · exact .inl h
        · rcases Array.mem_push.1 h with h | rfl
          · exact .inl h
          · exact .inr (by simp)
      · exact .inr (by simp [h])
  rcases key l _ _ h with h | h
  · simp at h
  · simpa using h

/-- What goroutine 0 knows of lies apart from what is shunned. -/
structure Known (X : Ctx) (O : Nat → Prop) (R : BR) (w : World) : Prop where
  diag : ∀ a b, R a b → a = b
  wr : WR X.vw X.P.globals.size X.G R (fun _ _ => False) w w
  apart : ∀ a, R a a → ¬ O a
  low : ∀ a, O a → a < w.heap.size

theorem Known.step {R R1 : BR} {w w1 : World} {tp : Tape} {d : Nat} (hK : Known X O R w) (e1 : ∀ a b, R1 a b → a = b) (e3 : WR X.vw X.P.globals.size X.G R1 (fun _ _ => False) w1 w1) (e4 : Eff (ByteTy X.P) (fun _ _ => False) R R1 (re w tp d) (re w tp d) w1 w1) : Known X O R1 (nrm w1) := by
  refine ⟨e1, re_WR e3 _ _ _ _, fun a ha hO => ?_, fun a ha => ?_⟩
  · rcases e4.new a a ha with h | ⟨h, _⟩
    · exact hK.apart a h hO
    · have := hK.low a hO
      exact absurd h (by show ¬ w.heap.size ≤ a; omega)
  · have := hK.low a ha
    have h' : w.heap.size ≤ w1.heap.size := e4.sz
    show a < w1.heap.size
    omega
theorem evL_of_known {R1 : BR} {w1 w2 : World} {es0 es : Array Event} (hK1 : Known X O R1 w2) (e3 : WR X.vw X.P.globals.size X.G R1 (fun _ _ => False) w1 w1) (e5 : EvA (fun _ _ => False) R1 es0 es) {e : Event} (he : e ∈ es) : EvM O w1.heap.size e := by
  have e1 := hK1.diag
  obtain ⟨e0, hev⟩ := evs_mem e5 (by simpa using he)
  have hloc := hev.loc
  have cellOk : ∀ a, e.loc = .cell a → R1 a.block a.block → EvM O w1.heap.size e := by
    intro a ha hR
    refine ⟨⟨fun x hx hs => ?_, by rw [ha]; simp, by rw [ha]; simp, ?_⟩, by rw [ha]; simp, by rw [ha]; simp, by rw [ha]; simp⟩
    · obtain ⟨loc, wr, sy⟩ := e
      dsimp only at ha
      subst ha
      simp only [MemAct.ofEvent, MemAct.touch?, Option.some.injEq] at hx
      subst hx
      obtain ⟨a', e', hO⟩ := hs
      cases e'
      exact absurd hO (hK1.apart _ hR)
    · obtain ⟨loc, wr, sy⟩ := e
      dsimp only at ha
      subst ha
      exact (e3.lt hR).1
  cases hl : e0.loc with
  | cell a =>
    cases hl' : e.loc with
    | cell a' =>
      rw [hl, hl'] at hloc
      have := e1 _ _ hloc.1.1
      exact cellOk a' hl' (by have h := hloc.1.1; rw [this] at h; exact h)
    | _ => rw [hl, hl'] at hloc; exact hloc.elim
  | obj r =>
    cases hl' : e.loc with
    | obj r' =>
      rw [hl, hl'] at hloc
      have := (e3.lt hloc.1).2
      have hwf : e.write = false := hev.wr.trans hloc.2
      refine ⟨⟨fun x hx hs => ?_, by rw [hl']; simp, by rw [hl']; simp, ?_⟩, by rw [hl']; simp, by rw [hl']; simp, by rw [hl']; simp⟩
      · obtain ⟨loc, wr, sy⟩ := e
        dsimp only at hl' hwf
        subst hl' hwf
        simp only [MemAct.ofEvent, MemAct.touch?, Option.some.injEq] at hx
        subst hx
        obtain ⟨a', e', hO⟩ := hs
        cases e'
      · obtain ⟨loc, wr, sy⟩ := e
        dsimp only at hl' hwf
        subst hl' hwf
        exact this
    | _ => rw [hl, hl'] at hloc; exact hloc.elim
  | mark m =>
    cases hl' : e.loc with
    | mark m' =>
      rw [hl, hl'] at hloc
      obtain ⟨rfl, hm⟩ := hloc
      obtain ⟨loc, wr, sy⟩ := e
      dsimp only at hl'
      subst hl'
      refine ⟨⟨fun x hx hs => ?_, ?_, ?_, ?_⟩, fun a e => ?_, by simp, by simp⟩
      · rcases hm with rfl | ⟨f, rfl⟩ <;> cases hx
      · rcases hm with rfl | ⟨f, rfl⟩ <;> simp
      · rcases hm with rfl | ⟨f, rfl⟩ <;> simp
      · rcases hm with rfl | ⟨f, rfl⟩ <;> trivial
      · rcases hm with rfl | ⟨f, rfl⟩ <;> cases e
    | _ => rw [hl, hl'] at hloc; exact hloc.elim
  | output => rw [hl] at hloc; cases hl' : e.loc <;> (rw [hl'] at hloc; exact hloc.elim)
  | goroutines => rw [hl] at hloc; cases hl' : e.loc <;> (rw [hl'] at hloc; exact hloc.elim)

/-- ████ WHAT ENDS WHATEVER IS DRAWN ENDS BESIDE LEAVERS. ████ -/
theorem main_ev (G : Good X P fs fz vs) (hV : ∀ u, X.vw u → NoFl X.P u) {Stop : LS → Prop} {tl : List Frame} {R0 : BR} {w0 : World} (hk : ∀ s R, Stop s → Known X O R s.w → StkR X P fs fz vs R (s.fr, s.fs) (s.fr, s.fs) → BR.Sub R0 R → w0.heap.size ≤ s.w.heap.size → MFin X.P Post O s.fr (s.fs ++ tl) s.w)
    {s : LS} (hE : Ev (LStep X.P) Stop s) : ∀ {R : BR}, Known X O R s.w → StkR X P fs fz vs R (s.fr, s.fs) (s.fr, s.fs) → BR.Sub R0 R → w0.heap.size ≤ s.w.heap.size → MFin X.P Post O s.fr (s.fs ++ tl) s.w := by
  induction hE with
  | stop hs => intro R hK hS hR h0; exact hk _ R hs hK hS hR h0
  | @step s h1 h2 ih =>
    intro R hK hS hR h0
    refine .of_step fun tp d => ?_
    obtain ⟨⟨s1, k⟩, hx⟩ := h1 tp d
    have hx' := hx
    unfold LStep at hx
    cases hr : (stepS X.P s.fr s.fs).run X.P (re s.w tp d) with
    | halt x w1 => rw [hr] at hx; cases hx
    | ok p w1 =>
      rw [hr] at hx
      cases hx
      have hT : (stepS X.P s.fr s.fs).runT X.P (re s.w tp d) #[] = (.ok p w1, ((stepS X.P s.fr s.fs).runT X.P (re s.w tp d) #[]).2) := by rw [← hr, ← Sem.runT_fst X.P _ _ #[]]
      have := (r_stepS G hK.wr.fine hS.1 hS.2).soundU hV rfl hK.diag (re_WR hK.wr tp tp d d) (es := #[]) .nil hT
      obtain ⟨R1, e1, e2, e3, e4, e5⟩ := this
      have hK1 : Known X O R1 (nrm w1) := hK.step e1 e3 e4
      have hsz : s.w.heap.size ≤ w1.heap.size := e4.sz
      refine ⟨p.1, p.2 ++ tl, w1, _, step_ok (main := true) hS.1.p tl hT, hsz, fun e he => ?_, ?_⟩
      · exact evL_of_known hK1 e3 e5 (seen_mem he)
      · have := ih tp d _ _ hx' hK1 e2 (hR.trans e4.sub) (Nat.le_trans h0 hsz)
        exact fun tp' d' gs sl t q a b c => by have := this tp' d' gs sl t q a b c; exact this
end

end Go.Proofs.Ytcgjppacnhmjlaa.Sim
end

section
set_option linter.unusedVariables false
set_option linter.unusedSimpArgs false
set_option linter.unusedSectionVars false
/-! A piece of code of goroutine 0's, beside leavers. -/
namespace Go.Proofs.Ytcgjppacnhmjlaa.Sim
open Go Go.Conc
set_option linter.unusedVariables false

/-- The same frame, with more to do behind it. -/
def addk (k : List Item) (fr : Frame) : Frame := { fr with todo := fr.todo ++ k }
def botL (k : List Item) : List Frame → List Frame
  | [] => []
  | [x] => [addk k x]
  | x :: y :: l => x :: botL k (y :: l)
def bot (k : List Item) (p : Stk) : Stk :=
  match p.2 with
  | [] => (addk k p.1, [])
  | c :: l => (p.1, botL k (c :: l))

theorem addk_eval (k : List Item) (fr : Frame) : (addk k fr).eval = fr.eval := by funext x; cases x <;> rfl
theorem addk_finish {P : Program} {fs vs : List Nat} {fz : Bool} {k : List Item} {fr : Frame} (h : fr.todo ≠ []) (hi : ∀ i ∈ fr.todo, okItem P fs fz vs i = true) (v : Value) : (addk k fr).finish v = addk k (fr.finish v) ∧ (fr.finish v).todo ≠ [] := by
  obtain ⟨fn, tmps, todo, defers, mode, kind, round⟩ := fr
  cases todo with
  | nil => exact absurd rfl h
  | cons i l =>
    have h0 := hi i (by simp)
    cases i with
    | inRegion ops t => cases t <;> exact ⟨rfl, by simp [Frame.finish]⟩
    | code c => exact ⟨rfl, by simp [Frame.finish]⟩
    | inBlock c => exact ⟨rfl, by simp [Frame.finish]⟩
    | inLoop c => exact ⟨rfl, by simp [Frame.finish]⟩
    | inScope c => exact ⟨rfl, by simp [Frame.finish]⟩
    | inRangeFunc c => exact ⟨rfl, by simp [Frame.finish]⟩
    | endRangeFunc c => exact ⟨rfl, by simp [Frame.finish]⟩
    | beginRound => cases h0
    | call a b c d => exact ⟨rfl, by simp [Frame.finish]⟩
    | extern a b => cases h0
theorem exit_app {id : Nat} {k : List Item} : ∀ {l l' : List Item}, exitTo id l = some l' → exitTo id (l ++ k) = some (l' ++ k)
  | [], _, h => by cases h
  | i :: l, l', h => by
    cases i <;> simp only [exitTo, List.cons_append] at h ⊢ <;> first | exact exit_app h | skip
    split at h
    · rename_i e; cases h; rw [if_pos e]
    · rename_i e; rw [if_neg e]; exact exit_app h


section
variable {X : Ctx} {P : Program} {fs vs : List Nat} {fz : Bool} {k : List Item}

theorem botL_cons (k : List Item) (x y : Frame) (l : List Frame) : botL k (x :: y :: l) = x :: botL k (y :: l) := rfl
theorem bot_nil (k : List Item) (x : Frame) : bot k (x, []) = (addk k x, []) := rfl
theorem bot_cons (k : List Item) (x c : Frame) (l : List Frame) : bot k (x, c :: l) = (x, botL k (c :: l)) := rfl

/-- A step does not look behind what is left to do here. -/
theorem stepS_bot {P' : Program} {fr : Frame} {l : List Frame} {w w1 : World} {es es1 : Array Event} {p : Stk} (hi : ∀ i ∈ fr.todo, okItem P fs fz vs i = true) (hl : ∀ c ∈ l, c.todo ≠ [] ∧ ∀ i ∈ c.todo, okItem P fs fz vs i = true)
    (hn : l = [] → fr.mode = .run → fr.todo ≠ []) (h : (stepS P' fr l).runT P' w es = (.ok p w1, es1)) :
    (stepS P' (bot k (fr, l)).1 (bot k (fr, l)).2).runT P' w es = (.ok (bot k p) w1, es1) := by
  obtain ⟨fn, tmps, todo, defers, mode, kind, round⟩ := fr
  cases mode with
  | panicking c => cases h
  | returning =>
    cases l with
    | nil => cases h
    | cons c l =>
      have hc := hl c (by simp)
      rw [bot_cons]
      unfold stepS at h ⊢
      dsimp only at h ⊢
      cases l with
      | nil =>
        show (match P'.funcs[fn]? with | some f => (results f tmps).bind fun v => pure ((addk k c).finish v, []) | none => stuck "no function").runT P' w es = _
        split at h
        · rename_i f hf
          rw [hf]
          dsimp only
          rw [runT_bind] at h ⊢
          split at h
          · rename_i v w2 es2 hr
            cases h
            rw [(addk_finish hc.1 hc.2 v).1]
            rfl
          · cases h
        · cases h
      | cons d l =>
        show (match P'.funcs[fn]? with | some f => (results f tmps).bind fun v => pure (c.finish v, botL k (d :: l)) | none => stuck "no function").runT P' w es = _
        split at h
        · rename_i f hf
          rw [hf]
          dsimp only
          rw [runT_bind] at h ⊢
          split at h
          · rename_i v w2 es2 hr
            cases h
            rfl
          · cases h
        · cases h
  | run =>
    cases l with
    | nil =>
      cases todo with
      | nil => exact absurd rfl (hn rfl rfl)
      | cons i t =>
        have h0 := hi i (by simp)
        rw [bot_nil]
        unfold stepS at h ⊢
        dsimp only [addk] at h ⊢
        rw [List.cons_append]
        cases i with
        | code c =>
          cases c with
          | skip => cases h; rfl
          | ret => cases h; rfl
          | seq a b => cases h; rfl
          | cond c a b =>
            dsimp only at h ⊢
            rw [show Frame.eval { fn := fn, tmps := tmps, todo := .code (.cond c a b) :: (t ++ k), defers := defers, mode := .run, kind := kind, roundOf := round } c = Frame.eval { fn := fn, tmps := tmps, todo := .code (.cond c a b) :: t, defers := defers, mode := .run, kind := kind, roundOf := round } c from by cases c <;> rfl]
            split at h
            · rename_i hb; cases h; rfl
            · cases h
          | block id b => cases h; rfl
          | loop b => cases h; rfl
          | exit id =>
            dsimp only at h ⊢
            split at h
            · rename_i k' he; rw [exit_app he]; cases h; rfl
            · cases h
          | region id ops draw =>
            dsimp only at h ⊢
            cases draw with
            | true =>
              simp only [if_true, choose, Sem.bind, Sem.runT, Question.forced, Bool.false_eq_true, if_false] at h ⊢
              cases h; rfl
            | false => cases h; rfl
          | _ => cases h0
        | inBlock id => cases h; rfl
        | inLoop b => cases h; rfl
        | inRegion ops todo =>
          cases todo with
          | nil => cases h; rfl
          | cons j rest =>
            dsimp only at h ⊢
            split at h
            · rename_i hw
              simp only [hw, if_true]
              cases ho : ops[j]? with
              | none => rw [ho] at h; cases h
              | some o =>
                rw [ho] at h
                dsimp only at h ⊢
                rw [show Frame.eval { fn := fn, tmps := tmps, todo := .inRegion ops (j :: rest) :: (t ++ k), defers := defers, mode := .run, kind := kind, roundOf := round } = Frame.eval { fn := fn, tmps := tmps, todo := .inRegion ops (j :: rest) :: t, defers := defers, mode := .run, kind := kind, roundOf := round } from by funext x; cases x <;> rfl]
                rw [runT_bind] at h ⊢
                split at h
                · rename_i n w2 es2 hr
                  try rw [hr]
                  cases n <;> first | (cases h; done) | (cases h; rfl)
                · cases h
            · rename_i hw
              simp only [hw, if_false, Bool.false_eq_true]
              cases h; rfl
        | _ => cases h0
    | cons c l =>
      rw [bot_cons]
      unfold stepS at h ⊢
      dsimp only at h ⊢
      cases todo with
      | nil => cases h; rfl
      | cons i t =>
        have h0 := hi i (by simp)
        cases i with
        | code c' =>
          cases c' with
          | skip => cases h; rfl
          | ret => cases h; rfl
          | seq a b => cases h; rfl
          | cond c' a b =>
            dsimp only at h ⊢
            split at h
            · rename_i hb; cases h; rfl
            · cases h
          | block id b => cases h; rfl
          | loop b => cases h; rfl
          | exit id =>
            dsimp only at h ⊢
            split at h
            · rename_i k' he; cases h; rfl
            · cases h
          | region id ops draw =>
            dsimp only at h ⊢
            cases draw with
            | true =>
              simp only [if_true, choose, Sem.bind, Sem.runT, Question.forced, Bool.false_eq_true, if_false] at h ⊢
              cases h; rfl
            | false => cases h; rfl
          | _ => cases h0
        | inBlock id => cases h; rfl
        | inLoop b => cases h; rfl
        | inRegion ops todo =>
          cases todo with
          | nil => cases h; rfl
          | cons j rest =>
            dsimp only at h ⊢
            split at h
            · rename_i hw
              simp only [hw, if_true]
              cases ho : ops[j]? with
              | none => rw [ho] at h; cases h
              | some o =>
                rw [ho] at h
                dsimp only at h ⊢
                rw [runT_bind] at h ⊢
                split at h
                · rename_i n w2 es2 hr
                  try rw [hr]
                  cases n <;> first | (cases h; done) | (cases h; rfl)
                · cases h
            · rename_i hw
              simp only [hw, if_false, Bool.false_eq_true]
              cases h; rfl
        | _ => cases h0

theorem stepS_ne {P' : Program} {fr : Frame} {l : List Frame} {w w1 : World} {es es1 : Array Event} {p : Stk} (hl : ∀ c ∈ l, c.todo ≠ []) (h : (stepS P' fr l).runT P' w es = (.ok p w1, es1)) : ∀ c ∈ p.2, c.todo ≠ [] := by
  unfold stepS at h
  split at h
  · cases h
  · split at h
    · cases h
    · split at h
      · rw [runT_bind] at h
        split at h
        · cases h; exact fun c hc => hl c (by simp [hc])
        · cases h
      · cases h
  · split at h
    · cases h; exact hl
    · cases h; exact hl
    · cases h; exact hl
    · cases h; exact hl
    · cases h; exact hl
    · split at h
      · cases h; exact hl
      · cases h
    · cases h; exact hl
    · cases h; exact hl
    · cases h; exact hl
    · split at h
      · cases h; exact hl
      · cases h
    · split at h
      · simp only [choose, Sem.bind, Sem.runT, Question.forced, Bool.false_eq_true, if_false] at h
        cases h; exact hl
      · cases h; exact hl
    · cases h; exact hl
    · rename_i ops j rest k ht
      split at h
      · split at h
        · rw [runT_bind] at h
          split at h
          · rename_i n w2 es2 hr
            cases n <;> first | (cases h; done) | (cases h; exact hl) | skip
            cases h
            intro c hc
            rcases List.mem_cons.1 hc with rfl | hc
            · rw [ht]; simp
            · exact hl c hc
          · cases h
        · cases h
      · cases h; exact hl
    · cases h

/-- It stands at the end of what is to do. -/
def AtK (s : LS) : Prop := s.fs = [] ∧ s.fr.mode = .run ∧ s.fr.todo = []
open Classical in
noncomputable def LStepK (P : Program) (s : LS) (tp : Tape) (d : Nat) : Option (LS × Nat) := if AtK s then none else LStep P s tp d
theorem lstepK {P : Program} {s : LS} {tp : Tape} {d : Nat} {x : LS × Nat} (h : LStepK P s tp d = some x) : ¬ AtK s ∧ LStep P s tp d = some x := by
  unfold LStepK at h
  split at h
  · cases h
  · rename_i hn; exact ⟨hn, h⟩

theorem bot_plain {fr : Frame} {l : List Frame} (h : Plain fr) : Plain (bot k (fr, l)).1 := by
  cases l with
  | nil => exact ⟨h.kind, h.round, h.defers⟩
  | cons c l => exact h
theorem bot_fn (fr : Frame) (l : List Frame) : (bot k (fr, l)).1.fn = fr.fn := by cases l <;> rfl

/-- The same, with more to do behind it. -/
theorem main_evk {Post : Value → World → Prop} {O : Nat → Prop} (G : Good X P fs fz vs) (hV : ∀ u, X.vw u → NoFl X.P u) {Stop : LS → Prop} {tl : List Frame} {R0 : BR} {w0 : World}
    (hk : ∀ s R, Stop s → Known X O R s.w → StkR X P fs fz vs R (s.fr, s.fs) (s.fr, s.fs) → BR.Sub R0 R → w0.heap.size ≤ s.w.heap.size → MFin X.P Post O (bot k (s.fr, s.fs)).1 ((bot k (s.fr, s.fs)).2 ++ tl) s.w)
    {s : LS} (hE : Ev (LStepK X.P) Stop s) : ∀ {R : BR}, Known X O R s.w → StkR X P fs fz vs R (s.fr, s.fs) (s.fr, s.fs) → (∀ c ∈ s.fs, c.todo ≠ []) → BR.Sub R0 R → w0.heap.size ≤ s.w.heap.size → MFin X.P Post O (bot k (s.fr, s.fs)).1 ((bot k (s.fr, s.fs)).2 ++ tl) s.w := by
  induction hE with
  | stop hs => intro R hK hS hne hR h0; exact hk _ R hs hK hS hR h0
  | @step s h1 h2 ih =>
    intro R hK hS hne hR h0
    refine .of_step fun tp d => ?_
    obtain ⟨⟨s1, kk⟩, hx⟩ := h1 tp d
    have hx0 := hx
    obtain ⟨hnk, hx⟩ := lstepK hx
    unfold LStep at hx
    cases hr : (stepS X.P s.fr s.fs).run X.P (re s.w tp d) with
    | halt x w1 => rw [hr] at hx; cases hx
    | ok p w1 =>
      rw [hr] at hx
      cases hx
      have hT : (stepS X.P s.fr s.fs).runT X.P (re s.w tp d) #[] = (.ok p w1, ((stepS X.P s.fr s.fs).runT X.P (re s.w tp d) #[]).2) := by rw [← hr, ← Sem.runT_fst X.P _ _ #[]]
      have hplain : ∀ c ∈ s.fs, c.todo ≠ [] ∧ ∀ i ∈ c.todo, okItem P fs fz vs i = true := by
        intro c hc
        refine ⟨hne c hc, ?_⟩
        have hfs : FsR X P fs fz vs R s.fs s.fs := hS.2
        have : ∀ {l l' : List Frame}, FsR X P fs fz vs R l l' → ∀ c ∈ l, ∀ i ∈ c.todo, okItem P fs fz vs i = true := by
          intro l l' h
          induction h with
          | nil => intro c hc; cases hc
          | cons h1 _ _ ih =>
            intro c hc
            rcases List.mem_cons.1 hc with rfl | hc
            · exact h1.items
            · exact ih c hc
        exact this hfs c hc
      have hB := stepS_bot (k := k) (P := P) (fs := fs) (fz := fz) (vs := vs) hS.1.items hplain (fun e1 e2 e3 => hnk ⟨e1, e2, e3⟩) hT
      obtain ⟨R1, e1, e2, e3, e4, e5⟩ := (r_stepS G hK.wr.fine hS.1 hS.2).soundU hV rfl hK.diag (re_WR hK.wr tp tp d d) (es := #[]) .nil hT
      have hsz : s.w.heap.size ≤ w1.heap.size := e4.sz
      have hK1 : Known X O R1 (nrm w1) := hK.step e1 e3 e4
      refine ⟨(bot k p).1, (bot k p).2 ++ tl, w1, _, step_ok (main := true) (bot_plain hS.1.p) tl hB, hsz, fun e he => evL_of_known hK1 e3 e5 (seen_mem he), ?_⟩
      have := ih tp d _ _ hx0 hK1 e2 (stepS_ne hne hT) (hR.trans e4.sub) (Nat.le_trans h0 hsz)
      exact fun tp' d' gs sl t q a b c => by have := this tp' d' gs sl t q a b c; exact this
end

end Go.Proofs.Ytcgjppacnhmjlaa.Sim
end

section
set_option linter.unusedVariables false
set_option linter.unusedSimpArgs false
set_option linter.unusedSectionVars false
/-! The rules of a walk of goroutine 0's beside leavers. -/
namespace Go.Proofs.Ytcgjppacnhmjlaa.Sim
open Go Go.Conc
set_option linter.unusedVariables false

section
variable {X : Ctx} {P : Program} {fs vs : List Nat} {fz : Bool} {k : List Item}

theorem atk_run {P' : Program} : ∀ (n : Nat) {s s' : LS} {tp : Tape} {d d' : Nat}, runS (LStep P') n s tp d = some (s', d') → AtK s' → runS (LStepK P') n s tp d = some (s', d')
  | 0, s, s', tp, d, d', h, _ => h
  | n + 1, s, s', tp, d, d', h, hk => by
    by_cases ha : AtK s
    · exfalso
      obtain ⟨fr, l, w⟩ := s
      obtain ⟨h1, h2, h3⟩ := ha
      dsimp only at h1 h2 h3
      subst h1
      have e1 : LStep P' ⟨fr, [], w⟩ tp d = some (⟨{ fr with mode := .returning }, [], nrm (re w tp d)⟩, 0) := by
        unfold LStep stepS
        dsimp only
        rw [h2]
        dsimp only
        rw [h3]
        simp [pure, re]
      simp only [runS, e1] at h
      cases n with
      | zero => cases h; cases hk.2.1
      | succ n =>
        have e2 : LStep P' ⟨{ fr with mode := .returning }, [], nrm (re w tp d)⟩ tp (d + 0) = none := by
          unfold LStep stepS
          rfl
        simp only [runS, e2] at h
        cases h
    · simp only [runS] at h ⊢
      have : LStepK P' s tp d = LStep P' s tp d := by unfold LStepK; rw [if_neg ha]
      rw [this]
      split at h
      · rename_i s1 kk hs; exact atk_run n h hk
      · cases h

/-- A piece of code that comes to its end. -/
theorem ev_wp (G : Good X P fs fz vs) (hV : ∀ u, X.vw u → NoFl X.P u) {c : Code} {b : Frame} {a : Act} {w : World} {Q : Exit → Act → World → Prop} {St : Act → World → Prop} (hi : LInv X P fs fz vs ⟨b.at a [.code c], [], w⟩)
    (hp : ∀ a w tp d, St a w → St a (re w tp d)) (hQ : ∀ e a' w', Q e a' w' → e = .normal ∧ St a' w') (hc : ∀ tp, c.wp X.P Q a (re w tp 0)) :
    Ev (LStepK X.P) (fun s' => s'.fs = [] ∧ ∃ a', s'.fr = b.at a' [] ∧ St a' s'.w) ⟨b.at a [.code c], [], w⟩ := by
  refine ev_of_runs (Inv := LInv X P fs fz vs) (fun s tp d s1 k hi hs tp' d' ha => ?_) (fun s tp d hi hs => ?_) (fun s tp d s1 k hi hs => lstep_keep G hV hi (lstepK hs).2) hi fun tp => ?_
  · obtain ⟨h1, h2⟩ := lstepK hs
    unfold LStepK
    rw [if_neg h1]
    exact lstep_some G hV hi h2 ha
  · unfold LStepK at hs ⊢
    split at hs
    · rename_i h; exact ⟨0, fun _ _ _ => if_pos h⟩
    · rename_i h
      obtain ⟨k, hk⟩ := lstep_none G hV hi hs
      exact ⟨k, fun tp' d' ha => by rw [if_neg h]; exact hk tp' d' ha⟩
  · obtain ⟨e, a', w', hq, harr⟩ := hc tp b [] [c0 X.P]
    obtain ⟨rfl, hst⟩ := hQ e a' w' hq
    obtain ⟨n, hn⟩ := harr
    obtain ⟨n', s', d', r1, r2, r3, r4⟩ := lone_run G hV (frE := b.at a' []) (fun ch e => by cases e) n ⟨b.at a [.code c], [], w⟩ tp 0 hi (by exact hn)
    refine ⟨n', s', d', atk_run n' r1 ⟨r2, by rw [r3]; rfl, by rw [r3]; rfl⟩, r2, a', r3, ?_⟩
    rw [nrm_eq r4]
    exact hp a' w' _ _ hst

variable {Post : Value → World → Prop} {O : Nat → Prop}

theorem MFin.re {fr : Frame} {cs : List Frame} {w : World} {tp : Tape} {d : Nat} (h : MFin P Post O fr cs (re w tp d)) : MFin P Post O fr cs w := fun tp' d' gs sl t q a b c => h tp' d' gs sl t q a b c
theorem Known.re {R : BR} {w : World} (h : Known X O R w) (tp : Tape) (d : Nat) : Known X O R (re w tp d) := ⟨h.diag, re_WR h.wr _ _ _ _, h.apart, h.low⟩

/-- ████ A PIECE OF CODE, BY ITS LONE WALK. ████ -/
theorem main_code (G : Good X P fs fz vs) (hV : ∀ u, X.vw u → NoFl X.P u) {c : Code} {b : Frame} {a : Act} {cs : List Frame} {w : World} {R : BR} {Q : Exit → Act → World → Prop} {St : Act → World → Prop}
    (hb : b.kind = .normal) (hg : ∃ f, X.P.funcs[b.fn]? = some f) (had : a.defers = []) (hok : okCode P fs fz vs c = true) (hK : Known X O R w) (ha : AVR X.G R a.tmps a.tmps)
    (hp : ∀ a w tp d, St a w → St a (re w tp d)) (hQ : ∀ e a' w', Q e a' w' → e = .normal ∧ St a' w') (hc : ∀ tp, c.wp X.P Q a (re w tp 0))
    (hn : ∀ a' w' R', St a' w' → Known X O R' w' → AVR X.G R' a'.tmps a'.tmps → a'.defers = [] → BR.Sub R R' → w.heap.size ≤ w'.heap.size → MFin X.P Post O (b.at a' k) cs w') :
    MFin X.P Post O (b.at a (.code c :: k)) cs w := by
  have hS : StkR X P fs fz vs R (b.at a [.code c], []) (b.at a [.code c], []) := ⟨⟨rfl, hg, rfl, fun i hi => by simp [Frame.at] at hi; subst hi; exact hok, ⟨hb, rfl, had⟩, ⟨hb, rfl, had⟩, rfl, .inl rfl, ha⟩, .nil⟩
  have hE := ev_wp G hV (w := w) (b := b) ⟨R, hK.diag, hK.wr, hS⟩ hp hQ hc
  refine main_evk (k := k) (tl := cs) (R0 := R) (w0 := w) G hV (fun s R' hs hK' hS' hR h0 => ?_) hE hK hS (fun c hc => by cases hc) (BR.Sub.refl R) (Nat.le_refl _)
  obtain ⟨h1, a', h2, h3⟩ := hs
  obtain ⟨fr, l, w'⟩ := s
  dsimp only at h1 h2 h3
  subst h1 h2
  exact hn a' w' R' h3 hK' hS'.1.tmps hS'.1.p.defers hR h0

/-- A return. -/
theorem main_ret (hV : ∀ u, X.vw u → NoFl X.P u) {Post1 : Value → World → Prop} {s : LS} {R : BR} {c : Frame} {cs : List Frame} (hs : LStop X.P Post1 s) (hK : Known X O R s.w) (hS : StkR X P fs fz vs R (s.fr, s.fs) (s.fr, s.fs))
    (hn : ∀ v R1, Post1 v s.w → Known X O R1 s.w → BR.Sub R R1 → VR X.G R1 v v → MFin X.P Post O (c.finish v) cs s.w) : MFin X.P Post O s.fr (c :: cs) s.w := by
  obtain ⟨h1, h2, v, fn, h3, h4, h5⟩ := hs
  refine .of_step fun tp d => ?_
  have hd := hS.1.p.defers
  have hk := hS.1.p.kind
  dsimp only at hd hk
  have hT : (results fn s.fr.tmps).runT X.P (Sim.re s.w tp d) #[] = (.ok v (Sim.re s.w tp d), ((results fn s.fr.tmps).runT X.P (Sim.re s.w tp d) #[]).2) := by rw [← h5 tp d, ← Sem.runT_fst X.P _ _ #[]]
  obtain ⟨R1, e1, e2, e3, e4, e5⟩ := (r_results fn hS.1.tmps).soundU hV rfl hK.diag (re_WR hK.wr tp tp d d) (es := #[]) .nil hT
  refine ⟨c.finish v, cs, Sim.re s.w tp d, seen X.P s.fr.fn ((results fn s.fr.tmps).runT X.P (Sim.re s.w tp d) #[]).2, ?_, Nat.le_refl _, fun e he => ?_, ?_⟩
  · generalize ((results fn s.fr.tmps).runT X.P (Sim.re s.w tp d) #[]).2 = es at hT
    simp [stepG, unwind, gor, h2, hd, h4, hT, hk, doReturn, GStep.after, -Sem.runT_eq]
  · exact evL_of_known (hK.step e1 e3 e4) e3 e5 (seen_mem he)
  · have hK1 := (hK.step e1 e3 e4).re s.w.tape s.w.drawn
    exact fun tp' d' gs sl t q x y z => hn v R1 h3 hK1 e4.sub e2 tp' d' gs sl t q x y z

/-- ████ A CALL, BY ITS LONE CONTRACT. ████ -/
theorem main_call (Gd : Good X P fs fz vs) (hV : ∀ u, X.vw u → NoFl X.P u) {b : Frame} {a : Act} {cs : List Frame} {w : World} {R : BR} {ops : Array Oper} {i : Nat} {rest : List Nat} {o : Oper} {f : FuncId} {fn : Func} {c : Code} {args : Array Operand} {ats : Array TypeId} {Post1 : Value → World → Prop}
    (ho : ops[i]? = some o) (hw : Region.wanted o (yielded ops a.tmps) = true) (hb : b.kind = .normal) (hop : o.op = .call { callee := .value (.func f), args, argTypes := ats })
    (hf : X.P.funcs[f]? = some fn) (hname : (fn.name == "runtime.NumGoroutine") = false) (hbody : fn.body = some c) (hg : X.G f) (hK : Known X O R w) (ha : AVR X.G R (args.map a.eval) (args.map a.eval))
    (hp : ∀ v w tp d, Post1 v w → Post1 v (Sim.re w tp d)) (hc : ∀ tp, Calls X.P f (args.map a.eval) (Sim.re w tp 0) fun e w' => ∃ v, e = .returned v ∧ Post1 v w')
    (hn : ∀ v w' R', Post1 v w' → Known X O R' w' → VR X.G R' v v → BR.Sub R R' → w.heap.size ≤ w'.heap.size → MFin X.P Post O (b.at (a.put o.dst v) (.inRegion ops rest :: k)) cs w') :
    MFin X.P Post O (b.at a (.inRegion ops (i :: rest) :: k)) cs w := by
  refine .of_step fun tp d => ?_
  have hkey := goes_call (P := X.P) (main := true) (b := b) (a := a) (k := k) (cs := cs) (rest := rest) (w := Sim.re w tp d) (K := fun g w1 es => g = gor (Frame.enter X.P f (args.map a.eval) .normal) (b.at a (.inRegion ops (i :: rest) :: k) :: cs) ∧ w1 = Sim.re w tp d ∧ es = #[]) ho hw (by rw [hb]; decide) hop hf hname hbody
    ⟨by simp [gor, G, Frame.enter, hf, hbody, Frame.at, base], rfl, rfl⟩
  have hst : ∃ es, stepG X.P true (gor (b.at a (.inRegion ops (i :: rest) :: k)) cs) (Sim.re w tp d) = .go (gor (Frame.enter X.P f (args.map a.eval) .normal) (b.at a (.inRegion ops (i :: rest) :: k) :: cs)) (Sim.re w tp d) es ∧ es = #[] := by
    have h2 : (stepG X.P true (gor (b.at a (.inRegion ops (i :: rest) :: k)) cs) (Sim.re w tp d)).goes _ := hkey
    cases hs : stepG X.P true (gor (b.at a (.inRegion ops (i :: rest) :: k)) cs) (Sim.re w tp d) with
    | go g' w' es =>
      rw [hs, goes_go] at h2
      obtain ⟨rfl, rfl, rfl⟩ := h2
      exact ⟨_, rfl, rfl⟩
    | _ => rw [hs] at h2; exact h2.elim
  obtain ⟨es, hst, rfl⟩ := hst
  refine ⟨_, _, _, _, hst, Nat.le_refl _, fun e he => by simp at he, ?_⟩
  have hE := ev_calls Gd hV hg ⟨fn, c, hf, hbody⟩ hK.diag hK.wr ha hp hc
  have hS : StkR X P fs fz vs R (Frame.enter X.P f (args.map a.eval) .normal, []) (Frame.enter X.P f (args.map a.eval) .normal, []) := ⟨FrameR.enter Gd hg ha ⟨fn, c, hf, hbody⟩, .nil⟩
  have := main_ev (tl := b.at a (.inRegion ops (i :: rest) :: k) :: cs) (R0 := R) (w0 := w) (Post := Post) (O := O) Gd hV (fun s R' hs hK' hS' hR h0 => ?_) hE (hK.re T0 0) hS (BR.Sub.refl R) (Nat.le_refl _)
  · exact fun tp' d' gs sl t q x y z => this tp' d' gs sl t q x y z
  · have hs1 := hs.1
    rw [hs1, List.nil_append]
    refine main_ret (s := s) hV hs hK' hS' fun v R1 h1 h2 h3 h4 => ?_
    have e : (b.at a (.inRegion ops (i :: rest) :: k)).finish v = b.at (a.put o.dst v) (.inRegion ops rest :: k) := by rw [Frame.finish_at, ho]; rfl
    rw [e]
    exact hn v s.w R1 h1 h2 h4 (hR.trans h3) h0
end

end Go.Proofs.Ytcgjppacnhmjlaa.Sim
end

section
set_option linter.unusedVariables false
set_option linter.unusedSimpArgs false
set_option linter.unusedSectionVars false
/-! A region of goroutine 0's, beside leavers, some of whose frame's places are not looked at. -/
namespace Go.Proofs.Ytcgjppacnhmjlaa.Sim
open Go Go.Conc
set_option linter.unusedVariables false

def noOpd (M : List Nat) : Operand → Bool
  | .tmp t => !M.contains t
  | _ => true
def noOpQ (q : Operand → Bool) : Op → Bool
  | .move x | .assign x | .load _ x | .fieldAddr _ x _ | .extract x _ | .unOp _ _ x => q x
  | .pick c a b => q c && (q a && q b)
  | .binOp _ _ x y _ => q x && q y
  | .alloc _ => true
  | .build _ ps | .buildSlice _ _ ps => ps.all fun p => q p.2
  | .store _ a x | .indexAddr _ a x => q a && q x
  | .slice _ x l h m => q x && (l.all q && (h.all q && m.all q))
  | .call c => (match c.callee with | .value f => q f | .builtin _ => true | _ => false) && c.args.all q
  | _ => false
def noOp (M : List Nat) (o : Op) : Bool := noOpQ (noOpd M) o
def noOper (M : List Nat) (o : Oper) : Bool := noOp M o.op && (match o.dst with | some d => !M.contains d | none => true)
def noCode (M : List Nat) : Code → Bool
  | .skip | .exit _ => true
  | .region _ ops _ => ops.all (noOper M)
  | .seq a b => noCode M a && noCode M b
  | .cond c a b => noOpd M c && noCode M a && noCode M b
  | .block _ b | .loop b => noCode M b
  | _ => false
def noItem (M : List Nat) : Item → Bool
  | .code c => noCode M c
  | .inBlock _ => true
  | .inLoop b => noCode M b
  | .inRegion ops _ => ops.all (noOper M)
  | _ => false

theorem map_congr_all {α β : Type} {ps : Array α} {f g : α → β} {p : α → Bool} (h : ps.all p = true) (e : ∀ x, p x = true → f x = g x) : ps.map f = ps.map g := by
  apply Array.map_congr_left
  intro x hx
  exact e x ((Array.all_eq_true_iff_forall_mem.1 h) x hx)

theorem opt_congr {q : Operand → Bool} {ρ ρ' : Operand → Value} {l : Option Operand} (hl : l.all q = true) (h : ∀ x, q x = true → ρ x = ρ' x) : l.map ρ = l.map ρ' := by
  cases l with
  | none => rfl
  | some x => simp only [Option.map_some]; rw [h x (by simpa using hl)]

theorem execOp_congr {q : Operand → Bool} {ρ ρ' : Operand → Value} (h : ∀ x, q x = true → ρ x = ρ' x) {o : Oper} (ho : noOpQ q o.op = true) : execOp ρ o = execOp ρ' o := by
  unfold execOp
  cases hop : o.op with
  | move x => rw [hop] at ho; dsimp only; rw [h x ho]
  | assign x => rw [hop] at ho; dsimp only; rw [h x ho]
  | load t x => rw [hop] at ho; dsimp only; rw [h x ho]
  | fieldAddr t x f => rw [hop] at ho; dsimp only; rw [h x ho]
  | extract x f => rw [hop] at ho; dsimp only; rw [h x ho]
  | unOp u t x => rw [hop] at ho; dsimp only; rw [h x ho]
  | pick c a b => rw [hop] at ho; simp only [noOpQ, Bool.and_eq_true] at ho; dsimp only; rw [h c ho.1, h a ho.2.1, h b ho.2.2]
  | binOp op t x y yt => rw [hop] at ho; simp only [noOpQ, Bool.and_eq_true] at ho; dsimp only; rw [h x ho.1, h y ho.2]
  | alloc t => rfl
  | build t ps =>
    rw [hop] at ho; dsimp only
    rw [map_congr_all (f := fun x : Nat × Operand => (x.1, ρ x.2)) (g := fun x : Nat × Operand => (x.1, ρ' x.2)) (p := fun p : Nat × Operand => q p.2) ho fun x hx => by rw [h x.2 hx]]
  | buildSlice t n ps =>
    rw [hop] at ho; dsimp only
    rw [map_congr_all (f := fun x : Nat × Operand => (x.1, ρ x.2)) (g := fun x : Nat × Operand => (x.1, ρ' x.2)) (p := fun p : Nat × Operand => q p.2) ho fun x hx => by rw [h x.2 hx]]
  | store t a x => rw [hop] at ho; simp only [noOpQ, Bool.and_eq_true] at ho; dsimp only; rw [h a ho.1, h x ho.2]
  | indexAddr t a x => rw [hop] at ho; simp only [noOpQ, Bool.and_eq_true] at ho; dsimp only; rw [h a ho.1, h x ho.2]
  | slice t x l h' m =>
    rw [hop] at ho; simp only [noOpQ, Bool.and_eq_true] at ho; dsimp only
    rw [h x ho.1, opt_congr ho.2.1 h, opt_congr ho.2.2.1 h, opt_congr ho.2.2.2 h]
  | call c =>
    rw [hop] at ho
    simp only [noOpQ, Bool.and_eq_true] at ho
    dsimp only
    have : resolve ρ c o.type = resolve ρ' c o.type := by
      unfold resolve
      rw [map_congr_all (p := q) ho.2 h]
      cases hc : c.callee with
      | value f => have hh := ho.1; rw [hc] at hh; dsimp only; rw [h f hh]
      | builtin b => rfl
      | invoke a b => exfalso; have hh := ho.1; rw [hc] at hh; simp at hh
    exact congrArg (fun s : Sem Deferred => s.bind fun d => invoke d.target d.args) this
  | _ => first | (rw [hop] at ho; cases ho; done) | rfl

def unmA (z : List (Nat × Value)) (t : Array Value) : Array Value := z.foldl (fun t p => t.setIfInBounds p.1 p.2) t
theorem unmA_getD : ∀ (z : List (Nat × Value)) (t : Array Value) {i : Nat}, (z.map (·.1)).contains i = false → (unmA z t).getD i undef = t.getD i undef
  | [], _, _, _ => rfl
  | p :: z, t, i, h => by
    simp only [List.map_cons, List.contains_cons, Bool.or_eq_false_iff, beq_eq_false_iff_ne] at h
    show (unmA z (t.setIfInBounds p.1 p.2)).getD i undef = _
    rw [unmA_getD z _ h.2]
    simp only [Array.getD_eq_getD_getElem?]
    rw [Array.getElem?_setIfInBounds_ne (Ne.symm h.1)]
theorem unmA_set : ∀ (z : List (Nat × Value)) (t : Array Value) {d : Nat} (v : Value), (z.map (·.1)).contains d = false → unmA z (t.setIfInBounds d v) = (unmA z t).setIfInBounds d v
  | [], _, _, _, _ => rfl
  | p :: z, t, d, v, h => by
    simp only [List.map_cons, List.contains_cons, Bool.or_eq_false_iff, beq_eq_false_iff_ne] at h
    show unmA z ((t.setIfInBounds d v).setIfInBounds p.1 p.2) = (unmA z (t.setIfInBounds p.1 p.2)).setIfInBounds d v
    rw [← unmA_set z _ v h.2]
    congr 1
    apply Array.ext_getElem?
    intro j
    simp only [Array.getElem?_setIfInBounds, Array.size_setIfInBounds]
    by_cases h1 : p.1 = j <;> by_cases h2 : d = j <;> simp_all

def addz (z : List (Nat × Value)) (k : List Item) (fr : Frame) : Frame := { fr with tmps := unmA z fr.tmps, todo := fr.todo ++ k }
def botzL (z : List (Nat × Value)) (k : List Item) : List Frame → List Frame
  | [] => []
  | [x] => [addz z k x]
  | x :: y :: l => x :: botzL z k (y :: l)
def botz (z : List (Nat × Value)) (k : List Item) (p : Stk) : Stk :=
  match p.2 with
  | [] => (addz z k p.1, [])
  | c :: l => (p.1, botzL z k (c :: l))
def bottom (p : Stk) : Frame := p.2.getLast?.getD p.1
theorem bottom_any (x y c : Frame) (l : List Frame) : bottom (x, c :: l) = bottom (y, c :: l) := by
  unfold bottom
  cases hg : (c :: l).getLast? with
  | none => simp at hg
  | some a => rfl
theorem bottom_cons (x c d : Frame) (l : List Frame) : bottom (x, c :: d :: l) = bottom (x, d :: l) := by
  unfold bottom
  rw [List.getLast?_cons_cons]

section
variable {X : Ctx} {P : Program} {fs vs : List Nat} {fz : Bool} {k : List Item} {z : List (Nat × Value)}

def Opaq (z : List (Nat × Value)) (fr : Frame) : Prop := ∀ i ∈ fr.todo, noItem (z.map (·.1)) i = true
theorem addz_eval {fr : Frame} {x : Operand} (h : noOpd (z.map (·.1)) x = true) : (addz z k fr).eval x = fr.eval x := by
  cases x with
  | tmp t => exact unmA_getD z fr.tmps (by simpa [noOpd] using h)
  | _ => rfl
theorem unmA_get? : ∀ (z : List (Nat × Value)) (t : Array Value) {i : Nat}, (z.map (·.1)).contains i = false → (unmA z t)[i]? = t[i]?
  | [], _, _, _ => rfl
  | p :: z, t, i, h => by
    simp only [List.map_cons, List.contains_cons, Bool.or_eq_false_iff, beq_eq_false_iff_ne] at h
    show (unmA z (t.setIfInBounds p.1 p.2))[i]? = _
    rw [unmA_get? z _ h.2, Array.getElem?_setIfInBounds_ne (Ne.symm h.1)]
theorem yielded_unm {ops : Array Oper} (h : ops.all (noOper (z.map (·.1))) = true) (t : Array Value) : yielded ops (unmA z t) = yielded ops t := by
  funext j
  unfold yielded
  cases ho : ops[j]? with
  | none => rfl
  | some o =>
    have := (Array.all_eq_true_iff_forall_mem.1 h) o (Array.mem_of_getElem? ho)
    simp only [noOper, Bool.and_eq_true] at this
    cases hd : o.dst with
    | none => simp [hd]
    | some d =>
      rw [hd] at this
      simp only [Option.bind_some, hd]
      rw [unmA_get? z t (by simpa using this.2)]
theorem exit_mem {id : Nat} : ∀ {l l' : List Item}, exitTo id l = some l' → ∀ i ∈ l', i ∈ l
  | [], _, h => by cases h
  | i :: l, l', h => by
    cases i <;> simp only [exitTo] at h <;> first | (intro j hj; exact List.mem_cons_of_mem _ (exit_mem h j hj)) | skip
    split at h
    · cases h; intro j hj; exact List.mem_cons_of_mem _ hj
    · intro j hj; exact List.mem_cons_of_mem _ (exit_mem h j hj)
theorem addz_finish {fr : Frame} (hi : Opaq z fr) (v : Value) (hr : ∃ ops i rest k', fr.todo = .inRegion ops (i :: rest) :: k') : (addz z k fr).finish v = addz z k (fr.finish v) ∧ Opaq z (fr.finish v) := by
  obtain ⟨fn, tmps, todo, defers, mode, kind, round⟩ := fr
  obtain ⟨ops, i, rest, k', e⟩ := hr
  dsimp only at e
  subst e
  have h0 := hi (.inRegion ops (i :: rest)) (by simp)
  refine ⟨?_, fun j hj => ?_⟩
  · unfold Frame.finish addz
    dsimp only [List.cons_append, List.nil_append]
    cases ho : ops[i]? with
    | none => rfl
    | some o =>
      have := (Array.all_eq_true_iff_forall_mem.1 h0) o (Array.mem_of_getElem? ho)
      simp only [noOper, Bool.and_eq_true] at this
      cases hd : o.dst with
      | none => simp [hd]
      | some d =>
        rw [hd] at this
        simp only [Option.bind_some, hd]
        rw [unmA_set z tmps v (by simpa using this.2)]
  · simp only [Frame.finish] at hj
    rcases List.mem_cons.1 hj with rfl | hj
    · exact h0
    · exact hi j (List.mem_cons_of_mem _ hj)

/-- A caller, as it stands. -/
def Calls1 (c : Frame) : Prop := c.mode = .run ∧ ∃ ops i rest k', c.todo = .inRegion ops (i :: rest) :: k'
theorem botz_nil (x : Frame) : botz z k (x, []) = (addz z k x, []) := rfl
theorem botz_cons (x c : Frame) (l : List Frame) : botz z k (x, c :: l) = (x, botzL z k (c :: l)) := rfl
theorem finish_mode (fr : Frame) (v : Value) : (fr.finish v).mode = fr.mode := by unfold Frame.finish; split <;> rfl

/-- A step does not look at what is hidden. -/
theorem stepS_botz {P' : Program} {fr : Frame} {l : List Frame} {w w1 : World} {es es1 : Array Event} {p : Stk} (hb : Opaq z (bottom (fr, l))) (hl : ∀ c ∈ l, Calls1 c)
    (hn : l = [] → fr.mode = .run ∧ fr.todo ≠ []) (h : (stepS P' fr l).runT P' w es = (.ok p w1, es1)) :
    (stepS P' (botz z k (fr, l)).1 (botz z k (fr, l)).2).runT P' w es = (.ok (botz z k p) w1, es1) ∧ Opaq z (bottom p) ∧ (∀ c ∈ p.2, Calls1 c) ∧ (p.2 = [] → p.1.mode = .run) := by
  obtain ⟨fn, tmps, todo, defers, mode, kind, round⟩ := fr
  cases l with
  | nil =>
    obtain ⟨hm, ht⟩ := hn rfl
    dsimp only at hm ht
    subst hm
    have hb' : Opaq z { fn := fn, tmps := tmps, todo := todo, defers := defers, mode := .run, kind := kind, roundOf := round } := hb
    cases todo with
    | nil => exact absurd rfl ht
    | cons i t =>
      have h0 := hb' i (by simp)
      have ht' : ∀ i ∈ t, noItem (z.map (·.1)) i = true := fun i hi => hb' i (List.mem_cons_of_mem _ hi)
      rw [botz_nil]
      unfold stepS at h ⊢
      dsimp only [addz] at h ⊢
      rw [List.cons_append]
      have keep : ∀ (tm : Array Value) (td : List Item), p = ({ fn := fn, tmps := tm, todo := td, defers := defers, mode := .run, kind := kind, roundOf := round }, []) → (∀ i ∈ td, noItem (z.map (·.1)) i = true) → Opaq z (bottom p) ∧ (∀ c ∈ p.2, Calls1 c) ∧ (p.2 = [] → p.1.mode = .run) := by
        rintro tm td rfl htd
        exact ⟨htd, fun c hc => by simp at hc, fun _ => rfl⟩
      cases i with
      | code c =>
        cases c with
        | skip => cases h; exact ⟨rfl, keep _ _ rfl ht'⟩
        | seq a b =>
          simp only [noItem, noCode, Bool.and_eq_true] at h0
          cases h; exact ⟨rfl, keep _ _ rfl fun i hi => by
            rcases List.mem_cons.1 hi with rfl | hi
            · exact h0.1
            · rcases List.mem_cons.1 hi with rfl | hi
              · exact h0.2
              · exact ht' i hi⟩
        | cond c a b =>
          simp only [noItem, noCode, Bool.and_eq_true] at h0
          dsimp only at h ⊢
          rw [show Frame.eval { fn := fn, tmps := unmA z tmps, todo := .code (.cond c a b) :: (t ++ k), defers := defers, mode := .run, kind := kind, roundOf := round } c = Frame.eval { fn := fn, tmps := tmps, todo := .code (.cond c a b) :: t, defers := defers, mode := .run, kind := kind, roundOf := round } c from addz_eval (k := k) (fr := { fn := fn, tmps := tmps, todo := .code (.cond c a b) :: t, defers := defers, mode := .run, kind := kind, roundOf := round }) h0.1.1]
          split at h
          · rename_i tt hb
            cases h; exact ⟨rfl, keep _ _ rfl fun i hi => by
              rcases List.mem_cons.1 hi with rfl | hi
              · cases tt
                · exact h0.2
                · exact h0.1.2
              · exact ht' i hi⟩
          · cases h
        | block id b =>
          cases h; exact ⟨rfl, keep _ _ rfl fun i hi => by
            rcases List.mem_cons.1 hi with rfl | hi
            · exact h0
            · rcases List.mem_cons.1 hi with rfl | hi
              · rfl
              · exact ht' i hi⟩
        | loop b =>
          cases h; exact ⟨rfl, keep _ _ rfl fun i hi => by
            rcases List.mem_cons.1 hi with rfl | hi
            · exact h0
            · rcases List.mem_cons.1 hi with rfl | hi
              · exact h0
              · exact ht' i hi⟩
        | exit id =>
          dsimp only at h ⊢
          split at h
          · rename_i k' he; rw [exit_app he]; cases h; exact ⟨rfl, keep _ _ rfl fun i hi => ht' i (exit_mem he i hi)⟩
          · cases h
        | region id ops draw =>
          dsimp only at h ⊢
          have op1 : ∀ o', ∀ i ∈ Item.inRegion ops o' :: t, noItem (z.map (·.1)) i = true := fun o' j hj => by
            rcases List.mem_cons.1 hj with rfl | hj
            · exact h0
            · exact ht' j hj
          cases draw with
          | true =>
            simp only [if_true, choose, Sem.bind, Sem.runT, Question.forced, Bool.false_eq_true, if_false] at h ⊢
            cases h; exact ⟨rfl, keep _ _ rfl (op1 _)⟩
          | false => cases h; exact ⟨rfl, keep _ _ rfl (op1 _)⟩
        | _ => cases h0
      | inBlock id => cases h; exact ⟨rfl, keep _ _ rfl ht'⟩
      | inLoop b =>
        cases h; exact ⟨rfl, keep _ _ rfl fun i hi => by
          rcases List.mem_cons.1 hi with rfl | hi
          · exact h0
          · rcases List.mem_cons.1 hi with rfl | hi
            · exact h0
            · exact ht' i hi⟩
      | inRegion ops todo =>
        cases todo with
        | nil => cases h; exact ⟨rfl, keep _ _ rfl ht'⟩
        | cons j rest =>
          dsimp only at h ⊢
          have fin : ∀ v : Value, (addz z k { fn := fn, tmps := tmps, todo := .inRegion ops (j :: rest) :: t, defers := defers, mode := .run, kind := kind, roundOf := round }).finish v = addz z k (Frame.finish { fn := fn, tmps := tmps, todo := .inRegion ops (j :: rest) :: t, defers := defers, mode := .run, kind := kind, roundOf := round } v) ∧ Opaq z (Frame.finish { fn := fn, tmps := tmps, todo := .inRegion ops (j :: rest) :: t, defers := defers, mode := .run, kind := kind, roundOf := round } v) := fun v => addz_finish hb' v ⟨_, _, _, _, rfl⟩
          have hy : ((ops[j]?).map (Region.wanted · (yielded ops (unmA z tmps)))).getD false = ((ops[j]?).map (Region.wanted · (yielded ops tmps))).getD false := by rw [yielded_unm h0]
          split at h
          · rename_i hw
            simp only [hy, hw, if_true]
            cases ho : ops[j]? with
            | none => rw [ho] at h; cases h
            | some o =>
              have hno := (Array.all_eq_true_iff_forall_mem.1 h0) o (Array.mem_of_getElem? ho)
              simp only [noOper, Bool.and_eq_true] at hno
              rw [ho] at h
              dsimp only at h ⊢
              rw [show execOp (Frame.eval { fn := fn, tmps := unmA z tmps, todo := .inRegion ops (j :: rest) :: (t ++ k), defers := defers, mode := .run, kind := kind, roundOf := round }) o = execOp (Frame.eval { fn := fn, tmps := tmps, todo := .inRegion ops (j :: rest) :: t, defers := defers, mode := .run, kind := kind, roundOf := round }) o from execOp_congr (fun x hx => addz_eval (k := k) (fr := { fn := fn, tmps := tmps, todo := .inRegion ops (j :: rest) :: t, defers := defers, mode := .run, kind := kind, roundOf := round }) hx) hno.1]
              rw [runT_bind] at h ⊢
              split at h
              · rename_i n w2 es2 hr
                try rw [hr]
                cases n with
                | value v =>
                  cases h
                  refine ⟨?_, (fin v).2, fun c hc => by simp at hc, fun _ => finish_mode _ _⟩
                  have := (fin v).1
                  unfold addz at this
                  dsimp only [List.cons_append, List.nil_append] at this
                  show (Result.ok (Frame.finish _ v, []) w1, es1) = _
                  rw [this]
                  rfl
                | skip =>
                  cases h
                  refine ⟨?_, (fin undef).2, fun c hc => by simp at hc, fun _ => finish_mode _ _⟩
                  have := (fin undef).1
                  unfold addz at this
                  dsimp only [List.cons_append, List.nil_append] at this
                  show (Result.ok (Frame.finish _ undef, []) w1, es1) = _
                  rw [this]
                  rfl
                | enter f xs =>
                  cases h
                  refine ⟨rfl, hb', fun c hc => ?_, fun e => by cases e⟩
                  simp at hc; subst hc
                  exact ⟨rfl, _, _, _, _, rfl⟩
                | _ => cases h
              · cases h
          · rename_i hw
            simp only [hy, hw, if_false, Bool.false_eq_true]
            cases h
            refine ⟨?_, (fin undef).2, fun c hc => by simp at hc, fun _ => finish_mode _ _⟩
            have := (fin undef).1
            unfold addz at this
            dsimp only [List.cons_append, List.nil_append] at this
            show (Result.ok (Frame.finish _ undef, []) w, es) = _
            rw [this]
            rfl
      | _ => cases h0
  | cons c l =>
    have hc := hl c (by simp)
    cases mode with
    | panicking e => cases h
    | returning =>
      rw [botz_cons]
      unfold stepS at h ⊢
      dsimp only at h ⊢
      cases l with
      | nil =>
        have hb' : Opaq z c := hb
        show (match P'.funcs[fn]? with | some f => (results f tmps).bind fun v => pure ((addz z k c).finish v, []) | none => stuck "no function").runT P' w es = _ ∧ _
        split at h
        · rename_i f hf
          rw [hf]
          dsimp only
          rw [runT_bind] at h ⊢
          split at h
          · rename_i v w2 es2 hr
            cases h
            have hq := addz_finish (k := k) hb' v hc.2
            rw [hq.1]
            exact ⟨rfl, hq.2, fun c hc => by simp at hc, fun _ => (finish_mode _ _).trans hc.1⟩
          · cases h
        · cases h
      | cons d l =>
        show (match P'.funcs[fn]? with | some f => (results f tmps).bind fun v => pure (c.finish v, botzL z k (d :: l)) | none => stuck "no function").runT P' w es = _ ∧ _
        split at h
        · rename_i f hf
          rw [hf]
          dsimp only
          rw [runT_bind] at h ⊢
          split at h
          · rename_i v w2 es2 hr
            cases h
            exact ⟨rfl, by rw [bottom_cons] at hb; rw [bottom_any _ _ d l]; exact hb, fun c hc => hl c (by simp at hc ⊢; exact .inr hc), fun e => by cases e⟩
          · cases h
        · cases h
    | run =>
      have hb2 : ∀ x : Frame, Opaq z (bottom (x, c :: l)) := by
        intro x
        rw [bottom_any x _ c l]; exact hb
      have keep : ∀ x : Frame, p = (x, c :: l) → Opaq z (bottom p) ∧ (∀ c ∈ p.2, Calls1 c) ∧ (p.2 = [] → p.1.mode = .run) := by
        rintro x rfl
        exact ⟨hb2 x, hl, fun e => by cases e⟩
      rw [botz_cons]
      unfold stepS at h ⊢
      dsimp only at h ⊢
      cases todo with
      | nil => cases h; exact ⟨rfl, keep _ rfl⟩
      | cons i t =>
        cases i with
        | code c' =>
          cases c' with
          | skip => cases h; exact ⟨rfl, keep _ rfl⟩
          | ret => cases h; exact ⟨rfl, keep _ rfl⟩
          | seq a b => cases h; exact ⟨rfl, keep _ rfl⟩
          | cond c' a b =>
            dsimp only at h ⊢
            split at h
            · rename_i hb; cases h; exact ⟨rfl, keep _ rfl⟩
            · cases h
          | block id b => cases h; exact ⟨rfl, keep _ rfl⟩
          | loop b => cases h; exact ⟨rfl, keep _ rfl⟩
          | exit id =>
            dsimp only at h ⊢
            split at h
            · rename_i k' he; cases h; exact ⟨rfl, keep _ rfl⟩
            · cases h
          | region id ops draw =>
            dsimp only at h ⊢
            cases draw with
            | true =>
              simp only [if_true, choose, Sem.bind, Sem.runT, Question.forced, Bool.false_eq_true, if_false] at h ⊢
              cases h; exact ⟨rfl, keep _ rfl⟩
            | false => cases h; exact ⟨rfl, keep _ rfl⟩
          | _ => cases h
        | inBlock id => cases h; exact ⟨rfl, keep _ rfl⟩
        | inLoop b => cases h; exact ⟨rfl, keep _ rfl⟩
        | inRegion ops todo =>
          cases todo with
          | nil => cases h; exact ⟨rfl, keep _ rfl⟩
          | cons j rest =>
            dsimp only at h ⊢
            split at h
            · rename_i hw
              simp only [hw, if_true]
              cases ho : ops[j]? with
              | none => rw [ho] at h; cases h
              | some o =>
                rw [ho] at h
                dsimp only at h ⊢
                rw [runT_bind] at h ⊢
                split at h
                · rename_i n w2 es2 hr
                  try rw [hr]
                  cases n with
                  | value v => cases h; exact ⟨rfl, keep _ rfl⟩
                  | skip => cases h; exact ⟨rfl, keep _ rfl⟩
                  | enter f xs =>
                    cases h
                    refine ⟨rfl, by rw [bottom_cons]; exact hb2 _, fun d hd => ?_, fun e => by cases e⟩
                    rcases List.mem_cons.1 hd with rfl | hd
                    · exact ⟨rfl, _, _, _, _, rfl⟩
                    · exact hl d hd
                  | _ => cases h
                · cases h
            · rename_i hw
              simp only [hw, if_false, Bool.false_eq_true]
              cases h; exact ⟨rfl, keep _ rfl⟩
        | _ => cases h

theorem botz_plain {fr : Frame} {l : List Frame} (h : Plain fr) : Plain (botz z k (fr, l)).1 := by
  cases l with
  | nil => exact ⟨h.kind, h.round, h.defers⟩
  | cons c l => exact h

theorem main_evz {Post : Value → World → Prop} {O : Nat → Prop} (G : Good X P fs fz vs) (hV : ∀ u, X.vw u → NoFl X.P u) {Stop : LS → Prop} {tl : List Frame} {R0 : BR} {w0 : World}
    (hk : ∀ s R, Stop s → Known X O R s.w → StkR X P fs fz vs R (s.fr, s.fs) (s.fr, s.fs) → BR.Sub R0 R → w0.heap.size ≤ s.w.heap.size → MFin X.P Post O (botz z k (s.fr, s.fs)).1 ((botz z k (s.fr, s.fs)).2 ++ tl) s.w)
    {s : LS} (hE : Ev (LStepK X.P) Stop s) : ∀ {R : BR}, Known X O R s.w → StkR X P fs fz vs R (s.fr, s.fs) (s.fr, s.fs) → Opaq z (bottom (s.fr, s.fs)) → (∀ c ∈ s.fs, Calls1 c) → (s.fs = [] → s.fr.mode = .run) → BR.Sub R0 R → w0.heap.size ≤ s.w.heap.size → MFin X.P Post O (botz z k (s.fr, s.fs)).1 ((botz z k (s.fr, s.fs)).2 ++ tl) s.w := by
  induction hE with
  | stop hs => intro R hK hS hq hc hm hR h0; exact hk _ R hs hK hS hR h0
  | @step s h1 h2 ih =>
    intro R hK hS hq hcl hm hR h0
    refine .of_step fun tp d => ?_
    obtain ⟨⟨s1, kk⟩, hx⟩ := h1 tp d
    have hx0 := hx
    obtain ⟨hnk, hx⟩ := lstepK hx
    unfold LStep at hx
    cases hr : (stepS X.P s.fr s.fs).run X.P (re s.w tp d) with
    | halt x w1 => rw [hr] at hx; cases hx
    | ok p w1 =>
      rw [hr] at hx
      cases hx
      have hT : (stepS X.P s.fr s.fs).runT X.P (re s.w tp d) #[] = (.ok p w1, ((stepS X.P s.fr s.fs).runT X.P (re s.w tp d) #[]).2) := by rw [← hr, ← Sem.runT_fst X.P _ _ #[]]
      obtain ⟨hB, hq1, hcl1, hm1⟩ := stepS_botz (k := k) hq hcl (fun e => ⟨hm e, fun e3 => hnk ⟨e, hm e, e3⟩⟩) hT
      obtain ⟨R1, e1, e2, e3, e4, e5⟩ := (r_stepS G hK.wr.fine hS.1 hS.2).soundU hV rfl hK.diag (re_WR hK.wr tp tp d d) (es := #[]) .nil hT
      have hsz : s.w.heap.size ≤ w1.heap.size := e4.sz
      have hK1 : Known X O R1 (nrm w1) := hK.step e1 e3 e4
      refine ⟨(botz z k p).1, (botz z k p).2 ++ tl, w1, _, step_ok (main := true) (botz_plain hS.1.p) tl hB, hsz, fun e he => evL_of_known hK1 e3 e5 (seen_mem he), ?_⟩
      have := ih tp d _ _ hx0 hK1 e2 hq1 hcl1 hm1 (hR.trans e4.sub) (Nat.le_trans h0 hsz)
      exact fun tp' d' gs sl t q a b c => by have := this tp' d' gs sl t q a b c; exact this

/-- A region, by its lone walk, some places hidden. -/
theorem main_codez {Post : Value → World → Prop} {O : Nat → Prop} (G : Good X P fs fz vs) (hV : ∀ u, X.vw u → NoFl X.P u) {c : Code} {b : Frame} {a : Act} {cs : List Frame} {w : World} {R : BR} {Q : Exit → Act → World → Prop} {St : Act → World → Prop}
    (hb : b.kind = .normal) (hg : ∃ f, X.P.funcs[b.fn]? = some f) (had : a.defers = []) (hok : okCode P fs fz vs c = true) (hz : noItem (z.map (·.1)) (.code c) = true) (hK : Known X O R w) (ha : AVR X.G R a.tmps a.tmps)
    (hp : ∀ a w tp d, St a w → St a (re w tp d)) (hQ : ∀ e a' w', Q e a' w' → e = .normal ∧ St a' w') (hc : ∀ tp, c.wp X.P Q a (re w tp 0))
    (hn : ∀ a' w' R', St a' w' → Known X O R' w' → AVR X.G R' a'.tmps a'.tmps → a'.defers = [] → BR.Sub R R' → w.heap.size ≤ w'.heap.size → MFin X.P Post O (b.at { a' with tmps := unmA z a'.tmps } k) cs w') :
    MFin X.P Post O (b.at { a with tmps := unmA z a.tmps } (.code c :: k)) cs w := by
  have hS : StkR X P fs fz vs R (b.at a [.code c], []) (b.at a [.code c], []) := ⟨⟨rfl, hg, rfl, fun i hi => by simp [Frame.at] at hi; subst hi; exact hok, ⟨hb, rfl, had⟩, ⟨hb, rfl, had⟩, rfl, .inl rfl, ha⟩, .nil⟩
  have hE := ev_wp G hV (w := w) (b := b) ⟨R, hK.diag, hK.wr, hS⟩ hp hQ hc
  refine main_evz (z := z) (k := k) (tl := cs) (R0 := R) (w0 := w) G hV (fun s R' hs hK' hS' hR h0 => ?_) hE hK hS (fun i hi => by simp [bottom, Frame.at] at hi; subst hi; exact hz) (fun c hc => by cases hc) (fun _ => rfl) (BR.Sub.refl R) (Nat.le_refl _)
  obtain ⟨h1, a', h2, h3⟩ := hs
  obtain ⟨fr, l, w'⟩ := s
  dsimp only at h1 h2 h3
  subst h1 h2
  exact hn a' w' R' h3 hK' hS'.1.tmps hS'.1.p.defers hR h0
end
end Go.Proofs.Ytcgjppacnhmjlaa.Sim
end
