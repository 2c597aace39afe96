/- Own texts: FjI, FjJ. -/
import Derived.Test.YtcgjppacnhmjlaaFmAJ

section
set_option linter.unusedVariables false
set_option linter.unusedSimpArgs false
set_option linter.unusedSectionVars false
/-! The semaphore; the join. -/
namespace Go.Proofs.Ytcgjppacnhmjlaa.Sim
open Go Go.Conc Go.ConcN
open Go.ConcR (KK wgBlock WgAt stA smA rd wr mk Payload DC0)
set_option linter.unusedVariables false
set_option linter.unusedSectionVars false
variable [Payload]

section
variable {C : FC} {S L : Nat → Prop} {J : Nat} {gh : Nat → Gh} {gs : Array Goroutine} {w w' : World} {t : Trace} {p vb d0 : Nat} {Mo : (Nat → Gh) → Int → Int → Prop}
  {Post : Value → World → Prop} {fr : Frame} {cs : List Frame} {w0 : World}

def blk (fr : Frame) (cs : List Frame) : Goroutine := { gor fr cs with status := .blocked }
theorem woken_blk {P : Program} {g g' : Goroutine} : woken P g g' w' (blk fr cs) = blk fr cs ∨ woken P g g' w' (blk fr cs) = gor fr cs := by
  unfold Go.Conc.woken
  split
  · exact .inr rfl
  · exact .inl rfl
theorem woken_up {P : Program} {g g' : Goroutine} (h : mayWake P g = true) (h' : g'.status = .running) : woken P g g' w' (blk fr cs) = gor fr cs := by
  unfold Go.Conc.woken
  rw [h, h']
  rfl

/-- ████ THE SEMAPHORE. ████ -/
theorem OFin.sem {fr' : Frame} {cs' : List Frame} (hS : C.Stable) (hn : J + 1 - C.m < 2147483600)
    (hb : ∀ w, Rl S L w0 w → (∃ st, WgAt C.ty C.Wg w st 0) → stepG C.P true (gor fr cs) w = .go (blk fr cs) w #[])
    (hu : ∀ w, Rl S L w0 w → WgAt C.ty C.Wg w 0 1 → stepG C.P true (gor fr cs) w = .go (gor fr' cs') (w.setCell (smA C.Wg) (.int .u32 0)) (semEvents (smA C.Wg)))
    (hnx : OFin C Post S L J (MoO C J 0 0) d0 fr' cs' w0) : OFin C Post S L J (MoR C J) d0 fr cs w0 := by
  have key : ∀ gh, ∀ w gs sl t a, (a = gor fr cs ∨ (a = blk fr cs ∧ ∃ st, WgAt C.ty C.Wg w st 0)) → Rl S L w0 w → gs[0]? = some a → Sit C S L J (MoR C J) d0 gh gs w t → Fin C.P Post (crowd gs w sl) t := by
    intro gh
    induction GLt.acc J gh with
    | intro gh _ ih =>
      have oth : ∀ w gs sl t a i g, (a = gor fr cs ∨ (a = blk fr cs ∧ ∃ st, WgAt C.ty C.Wg w st 0)) → Rl S L w0 w → gs[0]? = some a → Sit C S L J (MoR C J) d0 gh gs w t → 0 < i → gs[i]? = some g → g.status = .running → ∃ m' ops, runT C.P (crowd gs w sl) i = (.next m', ops) ∧ Fin C.P Post m' (t ++ ops) := by
        intro w gs sl t a i g ha hrl h0 hs hpos hi hg
        have hiJ : i ≤ J := by
          have := (Array.getElem?_eq_some_iff.1 hi).1
          have := hs.inv.sz
          omega
        obtain ⟨g', w', es, gh', a1, a2, a3, a4, st, sm, st', sm', b1, b2, b3⟩ := sit_oth (kp_reg hS hn) hs hpos hiJ hi hg
        have hi0 : (i == 0) = false := by simp; omega
        refine ⟨_, _, runT_crowd_go (P := C.P) (sl := sl) (i := i) hi (by rw [hi0]; exact a1), ?_⟩
        refine ih gh' a3 w' _ sl _ (woken C.P g g' w' a) ?_ (hrl.trans a4) ?_ a2
        · rcases ha with rfl | ⟨rfl, st0, hst⟩
          · exact .inl (woken_run rfl)
          · rcases b3 with rfl | ⟨c1, c2⟩
            · rcases woken_blk (fr := fr) (cs := cs) (w' := w') (P := C.P) (g := g) (g' := g') with e | e
              · obtain ⟨_, rfl⟩ := b1.unique hst
                exact .inr ⟨e, st', b2⟩
              · exact .inl e
            · exact .inl (woken_up c1 c2)
        · rw [Array.getElem?_setIfInBounds_ne (by omega), Array.getElem?_map, h0]
          rfl
      have B : ∀ w gs sl t, (∃ st, WgAt C.ty C.Wg w st 0) → Rl S L w0 w → gs[0]? = some (blk fr cs) → Sit C S L J (MoR C J) d0 gh gs w t → Fin C.P Post (crowd gs w sl) t := by
        intro w gs sl t hst hrl h0 hs
        refine Fin.pick (hs.awake h0 (fun t e => by cases e)) ?_ fun i g d sl' hi hg => .inl ?_
        · obtain ⟨st, sm, m1, m2⟩ := hs.mo
          obtain ⟨st0, m0⟩ := hst
          obtain ⟨_, rfl⟩ := m1.unique m0
          have : ∃ x, C.m ≤ x ∧ x ≤ J ∧ (gh x).stage ≠ 0 := by
            rcases m2 with ⟨h1, h2, _⟩ | ⟨z, z1, z2, z3, _⟩ | ⟨_, _, h3⟩
            · obtain ⟨x, x1, x2, x3⟩ := Vg_some h2
              exact ⟨x, x1, x2, by omega⟩
            · exact ⟨z, z1, z2, by omega⟩
            · cases h3
          obtain ⟨x, x1, x2, x3⟩ := this
          have := hs.inv.mJ.1
          obtain ⟨g, g1, g2⟩ := hs.inv.hw x (by omega) x2
          exact ⟨x, g, g1, oth_running g2 x3⟩
        · rcases Nat.eq_zero_or_pos i with rfl | hpos
          · rw [h0] at hi; cases hi; cases hg
          · exact oth (w.at d) gs sl' t _ i g (.inr ⟨rfl, hst⟩) (hrl.trans (Rl.at S L w d)) h0 (hs.at hS d) hpos hi hg
      intro w gs sl t a ha hrl h0 hs
      rcases ha with rfl | ⟨rfl, hst⟩
      · refine Fin.pick (hs.awake h0 (awake_of (.inl rfl))) ⟨0, _, h0, rfl⟩ fun i g d sl' hi hg => .inl ?_
        have hs' := hs.at hS d
        have hrl' := hrl.trans (Rl.at S L w d)
        rcases Nat.eq_zero_or_pos i with rfl | hpos
        · obtain ⟨st, sm, m1, m2⟩ := hs'.mo
          have hlt : 0 < gs.size := (Array.getElem?_eq_some_iff.1 h0).1
          have block : sm = 0 → ∃ m' ops, runT C.P (crowd gs (w.at d) sl') 0 = (.next m', ops) ∧ Fin C.P Post m' (t ++ ops) := by
            rintro rfl
            refine ⟨_, _, runT_crowd_go (P := C.P) (sl := sl') (i := 0) h0 (show stepG C.P (0 == 0) _ _ = _ from hb _ hrl' ⟨st, m1⟩), ?_⟩
            have := sit_zero (Mo' := MoR C J) hS hs' h0 (a' := blk fr cs) (Zs.refl C.Wg S L (w.at d)) (es := #[]) (fun e he => by simp at he) m1 m2
            rw [← grow_idle] at this
            exact B _ _ sl' _ ⟨st, m1⟩ hrl' (by simp [hlt]) this
          rcases m2 with ⟨h1, h2, h3, h4⟩ | ⟨z, z1, z2, z3, z4, z5, z6⟩ | ⟨h1, h2, h3⟩
          · exact block h4
          · exact block z6
          · subst h2 h3
            refine ⟨_, _, runT_crowd_go (P := C.P) (sl := sl') (i := 0) h0 (show stepG C.P (0 == 0) _ _ = _ from hu _ hrl' m1), ?_⟩
            have hV : Vg C.m J gh = 0 := by
              apply Classical.byContradiction
              intro hne
              obtain ⟨x, x1, x2, x3⟩ := Vg_some (m := C.m) (J := J) (gh := gh) (by omega)
              have := h1 x x1 x2
              omega
            have hLW : ∀ b, L b → b ≠ C.Wg := fun b hb e => (hs.inv.hL b hb).2.2.2 (e ▸ hs.inv.hO.1)
            have := sit_zero (Mo' := MoO C J 0 0) hS hs' h0 (a' := gor fr' cs') (Zs.set (.int .u32 0) rfl) (es := semEvents (smA C.Wg)) (fun e he => ?_) (m1.setSm 0) ⟨fun x x1 x2 => .inl (h1 x x1 x2), by rw [hV]; simp, rfl, by omega⟩
            · rw [grow_set, show deafBehind d0 (semEvents (smA C.Wg)) = d0 by simp [deafBehind, semEvents]] at this
              exact hnx _ _ sl' _ gh (hrl'.trans (rl_set hLW _ rfl _)) (by simp [hlt]) this
            · refine .inr (.inr (.inr (.inl ?_)))
              simp [semEvents] at he
              rcases he with rfl | rfl | rfl | rfl
              · exact .inl rfl
              · exact .inr (.inr ⟨_, _, rfl, rfl⟩)
              · exact .inr (.inr ⟨_, _, rfl, rfl⟩)
              · exact .inr (.inl rfl)
        · exact oth (w.at d) gs sl' t _ i g (.inl rfl) hrl' h0 hs' hpos hi hg
      · exact B w gs sl t hst hrl h0 hs
  exact fun w gs sl t gh hrl h0 hs => key gh w gs sl t _ (.inl rfl) hrl h0 hs

/-- What is there behind the join: what each has left, where it lies. -/
structure Joined (C : FC) (L : Nat → Prop) (J : Nat) (w : World) : Prop where
  wf : C.Wf w
  ex : ∃ (val : Nat → Value) (M : Nat → Nat → Prop), (∀ x, C.m ≤ x → x ≤ J → C.Res x (val x) (M x) w ∧ Has C.T (x - C.m) (val x) w) ∧ (∀ x b, M x b → b < w.heap.size ∧ ¬ L b ∧ b ≠ C.T ∧ b ≠ C.E ∧ ¬ C.O b) ∧ ∀ x y b, M x b → M y b → x = y

open Classical in
/-- ████ THE JOIN. ████ -/
theorem OFin.acq {fr' : Frame} {cs' : List Frame} (hS : C.Stable) (hn : J + 1 - C.m < 2147483600)
    (h : ∀ w, Rl S L w0 w → C.Wf w → stepG C.P true (gor fr cs) w = .go (gor fr' cs') w #[mk (.acquire (stA C.Wg))])
    (hnx : ∀ w, Rl S L w0 w → Joined C L J w → MFin C.P Post C.O fr' cs' w) : OFin C Post S L J (MoO C J 0 0) 0 fr cs w0 := by
  refine .of_main hS (kp_open hS hn (by omega)) fun w gs sl t gh hr h0 hs => ?_
  obtain ⟨st, sm, m1, m2, rfl, rfl, m5⟩ := hs.mo
  have hlt : 0 < gs.size := (Array.getElem?_eq_some_iff.1 h0).1
  have hst : ∀ x, 1 ≤ x → x ≤ J → (gh x).stage = 0 := by
    intro x x1 xJ
    rcases Nat.lt_or_ge x C.m with hl | hge
    · exact ((hs.inv.hr x x1 xJ).1 hl).1
    · rcases m2 x hge xJ with h | h
      · exact h
      · have := Vg_pos (m := C.m) hge xJ h; omega
  refine ⟨_, _, runT_crowd_go (P := C.P) (sl := sl) (i := 0) h0 (show stepG C.P (0 == 0) _ _ = _ from h w hr hs.inv.wf), ?_⟩
  have hs1 := sit_zero (Mo' := MoO C J 0 0) hS hs h0 (a' := gor fr' cs') (Zs.refl C.Wg S L w) (es := #[mk (.acquire (stA C.Wg))]) (fun e he => .inr (.inr (.inr (.inr ⟨stA C.Wg, rfl, .inr (.inr (by simpa using he))⟩)))) m1 ⟨m2, rfl, rfl, m5⟩
  rw [← grow_idle] at hs1
  have hd : deafBehind 0 #[mk (.acquire (stA C.Wg))] = 0 := rfl
  rw [hd] at hs1
  generalize hgs : (gs.map (woken C.P (gor fr cs) (gor fr' cs') w)).setIfInBounds 0 (gor fr' cs') = gs1 at hs1 ⊢
  have h01 : gs1[0]? = some (gor fr' cs') := by rw [← hgs]; simp [hlt]
  generalize ht1 : t ++ MemOp.ofEvents 0 (gor fr cs).frame.fn (gor fr cs).frame.place #[mk (.acquire (stA C.Wg))] = t1 at hs1 ⊢
  have hsz1 : gs1.size = J + 1 := hs1.inv.sz
  have hJ : Joined C L J w := by
    refine ⟨hs.inv.wf, fun x => (gh x).val, fun x => (gh x).M, fun x x1 xJ => ?_, fun x b hb => hs.inv.hM x b hb, hs.inv.hMM⟩
    have hm1 := hs.inv.mJ.1
    have := (hs.inv.hr x (by omega) xJ).2 x1 (by rw [hst x (by omega) xJ]; omega)
    exact ⟨this.1, this.2 (by rw [hst x (by omega) xJ]; omega)⟩
  have e1 : MemOp.ofEvents 0 (gor fr cs).frame.fn (gor fr cs).frame.place #[mk (.acquire (stA C.Wg))] = #[{ g := 0, fn := (gor fr cs).frame.fn, pos := (gor fr cs).frame.place, act := .mark (.acquire (stA C.Wg)) }] := by simp [ofEvents_eq, mk, MemAct.ofEvent]
  rw [e1] at ht1
  have hlast : t1[t.size]? = some { g := 0, fn := (gor fr cs).frame.fn, pos := (gor fr cs).frame.place, act := .mark (.acquire (stA C.Wg)) } := by rw [← ht1, Array.getElem?_append_right (Nat.le_refl _)]; simp
  have hL : Leavers C.P t1 gs1 fun x => if h : ∃ q, (gh x).rk = Rk.nat q ∧ ∃ g, gs1[x]? = some g ∧ QuitsD C.P q (Deaf t1 x) g then Classical.choose h else 0 := by
    refine ⟨fun i g hi hg => ?_, fun j hj => ?_⟩
    · have hiJ : i ≤ J := by have := (Array.getElem?_eq_some_iff.1 hg).1; omega
      obtain ⟨g1, a1, a2⟩ := hs1.inv.hw i hi hiJ
      rw [hg] at a1; cases a1
      unfold OthW at a2
      rw [hst i hi hiJ] at a2
      obtain ⟨q, q1, q2⟩ := a2
      have hdf := (hs1.inv.ht i hi hiJ).1
      have hex : ∃ q, (gh i).rk = Rk.nat q ∧ ∃ g, gs1[i]? = some g ∧ QuitsD C.P q (Deaf t1 i) g := ⟨q, q1, g, hg, by rw [hdf]; exact q2⟩
      rw [dif_pos hex]
      obtain ⟨_, g2, b1, b2⟩ := Classical.choose_spec hex
      rw [hg] at b1; cases b1
      exact b2
    · exact Deaf_absent fun i op hi e => by have := hs1.inv.ct.gs i op hi; omega
  have hPQ : PQ C.O w.heap.size gs1.size t1 := by
    rw [hsz1]
    refine pq_join (m := C.m) (q := t.size) (a := stA C.Wg) hs1.inv.ct hs1.inv.olds (fun x x1 xJ => ?_) hs1.inv.nrel (by simp [Trace.act?, hlast]) (by simp [Trace.g?, hlast]) ⟨0, by simp [Trace.g?, hlast], ?_⟩ hs1.deaf hs1.inv.low
    · have hm1 := hs.inv.mJ.1
      obtain ⟨r, hsd⟩ := (hs.inv.ht x (by omega) xJ).2 x1 (by rw [hst x (by omega) xJ]; omega)
      refine ⟨r, ?_, lt_of_act? hsd.rel.act⟩
      rw [← ht1]
      exact hsd.other fun op hop => .inl (by simp at hop; subst hop; show (0 : Nat) ≠ x; omega)
    · rw [← ht1, deaf_old (Nat.le_refl _)]
      exact hs.deaf
  have := hnx w hr hJ w.tape w.drawn gs1 sl t1 _ h01 hL hPQ
  rwa [re_self] at this
end

end Go.Proofs.Ytcgjppacnhmjlaa.Sim
end

section
set_option linter.unusedVariables false
set_option linter.unusedSimpArgs false
set_option linter.unusedSectionVars false
/-! A worker is started; the beginning. -/
namespace Go.Proofs.Ytcgjppacnhmjlaa.Sim
open Go Go.Conc Go.ConcN
open Go.ConcR (KK wgBlock WgAt stA smA rd wr mk Payload DC0)
set_option linter.unusedVariables false
set_option linter.unusedSectionVars false
variable [Payload]

theorem Deaf_fork {t : Trace} {x y : MemOp} {k j : Nat} (hx : x.act = .go j) (hy : y.act = .start) : Deaf (t ++ #[x, y]) k = Deaf t k := by
  rw [show (#[x, y] : Trace) = [x, y].toArray from rfl, Deaf_append]
  simp [deafStep, hx, hy]

section
variable {C : FC} {S L : Nat → Prop} {J : Nat} {gh : Nat → Gh} {gs : Array Goroutine} {w w' : World} {t : Trace} {p vb d0 : Nat} {Mo : (Nat → Gh) → Int → Int → Prop}
  {Post : Value → World → Prop} {fr : Frame} {cs : List Frame} {w0 : World}

theorem inv_fork (I : Inv C L J gh gs w t) {g' child : Goroutine} {ro : Nat → Prop} {r : Rk} {x y : MemOp} (hx : x.g = 0 ∧ x.act = .go (J + 1)) (hy : y.g = J + 1 ∧ y.act = .start) (hd0 : Deaf t 0 = 0) (hro : ∀ b, ro b → L b)
    (hc : CoGr C.P { T := C.T, E := C.E, i := J + 1 - C.m, part := ro } (C.pr (J + 1)) r (fun _ => False) child w) :
    Inv C L (J + 1) (setG gh (J + 1) { M := fun _ => False, ro := ro, stage := 8, rk := r, d := 0, val := .tuple #[] }) ((gs.setIfInBounds 0 g').push child) w (t ++ #[x, y]) := by
  have hsz := I.sz
  have hmJ := I.mJ
  have hnt : ∀ op ∈ #[x, y], op.act.touch? = none ∧ (∀ B, op.act.low B) ∧ ∀ a, op.act ≠ .mark (.release a) := by
    intro op hop
    simp only [List.mem_toArray, List.mem_cons, List.not_mem_nil, or_false] at hop
    rcases hop with rfl | rfl
    · rw [hx.2]; exact ⟨rfl, fun _ => trivial, fun a e => by cases e⟩
    · rw [hy.2]; exact ⟨rfl, fun _ => trivial, fun a e => by cases e⟩
  have nM : ∀ k b, (setG gh (J + 1) { M := fun _ => False, ro := ro, stage := 8, rk := r, d := 0, val := .tuple #[] } k).M b → (gh k).M b := by
    intro k b hb
    by_cases e : k = J + 1
    · subst e; rw [setG_same] at hb; exact hb.elim
    · rw [setG_ne e] at hb; exact hb
  have nR : ∀ k b, (setG gh (J + 1) { M := fun _ => False, ro := ro, stage := 8, rk := r, d := 0, val := .tuple #[] } k).ro b → L b := by
    intro k b hb
    by_cases e : k = J + 1
    · subst e; rw [setG_same] at hb; exact hro b hb
    · rw [setG_ne e] at hb; exact I.hro k b hb
  refine ⟨by simp [hsz], by omega, fun k k1 kJ => ?_, fun k k1 kJ => ?_, fun k k1 kJ => ?_, fun k hk => ?_, ?_, I.olds.app fun op hop => .inr (.inr (hnt op hop).1), fun op hop => ?_, fun op hop a => ?_, fun k b hb => I.hM k b (nM k b hb), fun k k' b h1 h2 => I.hMM k k' b (nM k b h1) (nM k' b h2), nR, I.hL, I.hO, I.hOl, I.wf⟩
  · by_cases e : k = J + 1
    · subst e
      refine ⟨child, by rw [Array.getElem?_push]; simp [hsz], ?_⟩
      rw [setG_same]
      exact ⟨hc, rfl⟩
    · obtain ⟨g, h1, h2⟩ := I.hw k k1 (by omega)
      refine ⟨g, ?_, by rw [setG_ne e]; exact h2⟩
      rw [Array.getElem?_push, if_neg (by simp [hsz]; omega), Array.getElem?_setIfInBounds_ne (by omega)]
      exact h1
  · by_cases e : k = J + 1
    · subst e
      rw [setG_same]
      exact ⟨fun h => by omega, fun _ h => absurd h (by show ¬ 8 ≤ 7; omega)⟩
    · rw [setG_ne e]; exact I.hr k k1 (by omega)
  · by_cases e : k = J + 1
    · subst e
      rw [setG_same]
      refine ⟨?_, fun _ h => absurd h (by show ¬ 8 ≤ 6; omega)⟩
      rw [Deaf_fork hx.2 hy.2]
      exact Deaf_absent fun i op hi e => by have := I.ct.gs i op hi; omega
    · rw [setG_ne e]
      obtain ⟨h1, h2⟩ := I.ht k k1 (by omega)
      refine ⟨by rw [Deaf_fork hx.2 hy.2]; exact h1, fun h3 h4 => ?_⟩
      obtain ⟨r, hs⟩ := h2 h3 h4
      exact ⟨r, hs.other fun op hop => .inr (hnt op hop).1⟩
  · rw [setG_ne (by omega)]
    exact I.nx k (by omega)
  · have A : Apart (ShM C.O) (OwnF C (setG gh (J + 1) { M := fun _ => False, ro := ro, stage := 8, rk := r, d := 0, val := .tuple #[] })) (RdF (setG gh (J + 1) { M := fun _ => False, ro := ro, stage := 8, rk := r, d := 0, val := .tuple #[] })) :=
      apart_of (L := L) (fun k b hb => (I.hM k b (nM k b hb)).2) (fun k k' b h1 h2 => I.hMM k k' b (nM k b h1) (nM k' b h2)) nR (fun b hb => (I.hL b hb).2) I.hO.2
    refine CT.fork A (ct_change I.ct (fun k k1 kj l hl => ?_) (fun k k1 kj l hl hno => ?_) fun k k1 kj l => ?_) hx hy hd0
    · unfold OwnF at hl ⊢; rw [setG_ne (by omega)]; exact hl
    · unfold OwnF at hl hno; rw [setG_ne (by omega)] at hl; exact absurd hl hno
    · unfold RdF; rw [setG_ne (by omega)]
  · rcases Array.mem_append.1 hop with h | h
    · exact I.low op h
    · exact (hnt op h).2.1 _
  · rcases Array.mem_append.1 hop with h | h
    · exact I.nrel op h a
    · exact (hnt op h).2.2 a

/-- ████ A WORKER IS STARTED. ████ -/
theorem OFin.spawn {fr' : Frame} {cs' : List Frame} {ro : Nat → Prop} (hS : C.Stable) (hn : J + 1 - C.m < 2147483600)
    (h : ∀ w, Rl S L w0 w → C.Wf w → ∃ child, stepG C.P true (gor fr cs) w = .spawn (gor fr' cs') child w #[] ∧ CoG C.P { T := C.T, E := C.E, i := J + 1 - C.m, part := ro } (C.pr (J + 1)) (fun _ => False) child w)
    (hro : ∀ b, ro b → L b) (hnx : OFin C Post (fun b => S b ∨ ro b) L (J + 1) (MoO C (J + 1) 0 (vb + 1)) 0 fr' cs' w0) : OFin C Post S L J (MoO C J 1 vb) 0 fr cs w0 := by
  refine .of_main hS (kp_open hS hn (by omega)) fun w gs sl t gh hr h0 hs => ?_
  obtain ⟨st, sm, m1, m2, rfl, rfl, m5⟩ := hs.mo
  have hlt : 0 < gs.size := (Array.getElem?_eq_some_iff.1 h0).1
  obtain ⟨child, h1, r, h2⟩ := h w hr hs.inv.wf
  have hsz := hs.inv.sz
  have hmJ := hs.inv.mJ
  refine ⟨_, _, runT_crowd_spawn (P := C.P) (sl := sl) (i := 0) h0 (show stepG C.P (0 == 0) _ _ = _ from h1), ?_⟩
  have e1 : ((MemOp.ofEvents 0 (gor fr cs).frame.fn (gor fr cs).frame.place #[]).push { g := 0, fn := (gor fr cs).frame.fn, pos := (gor fr cs).frame.place, act := .go gs.size } |>.push { g := gs.size, fn := child.frame.fn, pos := (gor fr cs).frame.place, act := .start }) =
    (#[({ g := 0, fn := (gor fr cs).frame.fn, pos := (gor fr cs).frame.place, act := .go gs.size } : MemOp), { g := gs.size, fn := child.frame.fn, pos := (gor fr cs).frame.place, act := .start }] : Array MemOp) := rfl
  rw [e1]
  have hI := inv_fork hs.inv (g' := gor fr' cs') (x := { g := 0, fn := (gor fr cs).frame.fn, pos := (gor fr cs).frame.place, act := .go gs.size }) (y := { g := gs.size, fn := child.frame.fn, pos := (gor fr cs).frame.place, act := .start }) ⟨rfl, by rw [hsz]⟩ ⟨hsz, rfl⟩ hs.deaf hro h2
  have hV : Vg C.m (J + 1) (setG gh (J + 1) { M := fun _ => False, ro := ro, stage := 8, rk := r, d := 0, val := .tuple #[] }) = Vg C.m J gh + 1 := by
    rw [Vg_succ (by omega), setG_same, Vg_out (.inr (by omega))]
    rfl
  refine hnx w _ sl _ _ (hr.mono fun _ => .inl) ?_ ⟨hI, ⟨_, _, m1, fun x x1 xJ => ?_, ?_, rfl, by omega⟩, ?_, fun x b hb => ?_⟩
  · rw [Array.getElem?_push, if_neg (by simp; omega)]
    simp [hlt]
  · by_cases e : x = J + 1
    · subst e; rw [setG_same]; exact .inr (by show 5 ≤ 8; omega)
    · rw [setG_ne e]; exact m2 x x1 (by omega)
  · rw [hV]
  · rw [Deaf_fork rfl rfl]; exact hs.deaf
  · by_cases e : x = J + 1
    · subst e; rw [setG_same] at hb; exact .inr hb
    · rw [setG_ne e] at hb; exact .inl (hs.ro x b hb)
end

section
variable {P : Program} {Post : Value → World → Prop} {O : Nat → Prop} {fr : Frame} {cs : List Frame} {w : World}

/-- ████ THE BEGINNING: the group's block is made. ████ -/
theorem MFin.begin {ty : TypeId} {T E n : Nat} {Res : Nat → Nat → Value → (Nat → Prop) → World → Prop} {L : Nat → Prop} (hT : ∃ c, w.heap[T]? = some (.cells c Payload.ety) ∧ c.size = n) (hE : ∃ c e f, w.heap[E]? = some (.cells c e f) ∧ c.size = n ∧ f = (0, 0)) (hTE : T ≠ E) (hOT : ¬ O T ∧ ¬ O E) (hO : ∀ b, O b → b < w.heap.size)
    (hL : ∀ b, L b → b < w.heap.size ∧ b ≠ T ∧ b ≠ E ∧ ¬ O b)
    (h : ∀ tp d, ∃ fr' cs' w', stepG P true (gor fr cs) (Sim.re w tp d) = .go (gor fr' cs') w' #[] ∧ w'.heap.size = w.heap.size + 1 ∧ WgAt ty w.heap.size w' 0 0 ∧ (∀ b, b < w.heap.size → w'.heap[b]? = w.heap[b]?) ∧
      ∀ m, 1 ≤ m → OFin { P := P, ty := ty, Wg := w.heap.size, T := T, E := E, n := n, m := m, O := fun b => O b ∨ b = w.heap.size, Res := Res m } Post (fun _ => False) L (m - 1) (MoO { P := P, ty := ty, Wg := w.heap.size, T := T, E := E, n := n, m := m, O := fun b => O b ∨ b = w.heap.size, Res := Res m } (m - 1) 0 0) 0 fr' cs' w') : MFin P Post O fr cs w := by
  intro tp d gs sl t q h0 hLv hP
  generalize hμ : sumTo gs.size q = μ
  induction μ using Nat.strongRecOn generalizing d gs sl t q with
  | _ μ ih =>
    refine Fin.pick (awake_of_leavers hLv h0 rfl) ⟨0, _, h0, rfl⟩ fun i g d' sl' hi hg => .inl ?_
    rw [at_re]
    rcases Nat.eq_zero_or_pos i with rfl | hpos
    · obtain rfl : g = gor fr cs := by rw [h0] at hi; exact (Option.some.inj hi).symm
      obtain ⟨fr', cs', w', h1, h2, h3, h4, h5⟩ := h tp d'
      obtain ⟨gs', ops, r1, r2, r3, r4, r5⟩ := zero_step (sl := sl') hLv hP (Nat.le_refl _) h0 h1 (fun e he => by simp at he)
      refine ⟨_, _, r1, ?_⟩
      generalize t ++ ops = t1 at r3 r4 ⊢
      have hsz : 1 ≤ gs'.size := by have := (Array.getElem?_eq_some_iff.1 r2).1; omega
      obtain ⟨c, c1, c2⟩ := hT
      obtain ⟨e, ee, ef, e1, e2⟩ := hE
      have tlt := (Array.getElem?_eq_some_iff.1 c1).1
      have elt := (Array.getElem?_eq_some_iff.1 e1).1
      refine h5 gs'.size hsz w' gs' sl' t1 (fun x => { M := fun _ => False, ro := fun _ => False, stage := 0, rk := Rk.nat (q x), d := Deaf t1 x, val := .tuple #[] }) (.refl _ _ _) r2 ⟨⟨by omega, ⟨hsz, by show gs'.size ≤ gs'.size - 1 + 1; omega⟩, fun x x1 xJ => ?_, fun x x1 xJ => ?_, fun x x1 xJ => ?_, fun x _ => ⟨fun _ => id, fun _ => id⟩, ?_, ⟨fun i a g ha hm hg hlt => ?_, fun i g hg hne hlt hc => r4.past.over i g hg hne hc⟩, fun op hop => MemAct.low_mono (by omega) (r4.past.seen op hop), r4.nrel, fun x b hb => hb.elim, fun x y b hb => hb.elim, fun x b hb => hb.elim, fun b hb => ?_, ⟨.inr rfl, fun hh => hh.elim hOT.1 fun hh => absurd hh (by show T ≠ w.heap.size; omega), fun hh => hh.elim hOT.2 fun hh => absurd hh (by show E ≠ w.heap.size; omega)⟩, fun b hb => hb.elim (fun hb => by have := hO b hb; omega) (fun hb => by rw [hb]; omega), ⟨⟨c, (h4 T tlt).trans c1, c2⟩, ⟨e, ee, ef, (h4 E elt).trans e1, e2⟩, ⟨hTE, by show T ≠ w.heap.size; omega, by show E ≠ w.heap.size; omega⟩, ⟨_, _, h3⟩⟩⟩, ⟨_, _, h3, fun x x1 xJ => ?_, ?_, rfl, ?_⟩, r4.past.hears, fun x b hb => hb.elim⟩
      · have hxl : x < gs'.size := by omega
        exact ⟨gs'[x], Array.getElem?_eq_getElem hxl, q x, rfl, r3.old x _ x1 (Array.getElem?_eq_getElem hxl)⟩
      · exact ⟨fun _ => ⟨rfl, fun _ => id, fun _ => id⟩, fun hx => absurd hx (by show ¬ gs'.size ≤ x; omega)⟩
      · exact ⟨rfl, fun hx => absurd hx (by show ¬ gs'.size ≤ x; omega)⟩
      · refine ct_begin r4 (by omega) (Nat.le_refl _) (fun k k1 kj l hl => ?_) (fun k k1 kj l hl => ?_)
        · rcases hl with ⟨a, _, hh | ⟨hh, _⟩⟩ | ⟨r, _, hh⟩
          · exact hh
          · exact absurd hh (by show ¬ gs'.size ≤ k; omega)
          · exact hh
        · rcases hl with ⟨a, _, hh⟩ | ⟨r, _, hh⟩ <;> exact hh
      · exact (r4.past.known i a ha hm).imp id fun ⟨⟨x, x1, x2⟩, x3⟩ => ⟨⟨x, x1, .inl x2⟩, x3⟩
      · obtain ⟨l1, l2, l3, l4⟩ := hL b hb
        exact ⟨by omega, l2, l3, fun hh => hh.elim l4 fun hh => by omega⟩
      · exact absurd x1 (by show ¬ gs'.size ≤ x; omega)
      · simp [Vg, show gs'.size - 1 + 1 - gs'.size = 0 by omega, sumTo]
      · simp [Vg, show gs'.size - 1 + 1 - gs'.size = 0 by omega, sumTo]
    · obtain ⟨gs', ops, q', r1, r2, r3, r4, r5, r6⟩ := leaver_step (w := Sim.re w tp d') (sl := sl') hLv hP hpos hi hg h0 rfl
      exact ⟨_, _, r1, ih _ (by rw [← hμ]; exact r5) d' gs' sl' (t ++ ops) q' r2 r3 r4 rfl⟩
end

end Go.Proofs.Ytcgjppacnhmjlaa.Sim
end
