/- Own texts: FjE, FjF. -/
import Derived.Test.YtcgjppacnhmjlaaFmAH

section
set_option linter.unusedVariables false
set_option linter.unusedSimpArgs false
set_option linter.unusedSectionVars false
/-! A step of another's, on. -/
namespace Go.Proofs.Ytcgjppacnhmjlaa.Sim
open Go Go.Conc Go.ConcN
open Go.ConcR (KK wgBlock WgAt stA smA rd wr mk Payload DC0)
set_option linter.unusedVariables false
set_option linter.unusedSectionVars false
variable [Payload]

section
variable {C : FC} {L : Nat → Prop} {J : Nat} {gh : Nat → Gh} {gs : Array Goroutine} {w w' : World} {t : Trace}

/-- It is said otherwise where it stands. -/
theorem inv_relabel (I : Inv C L J gh gs w t) {x : Nat} {g : Goroutine} {h' : Gh} (hx1 : 1 ≤ x) (hxJ : x ≤ J) (hg : gs[x]? = some g) (hM' : h'.M = (gh x).M) (hro' : h'.ro = (gh x).ro) (ho : OthW C w x h' g) (hr : OthR C w x h') (ht : OthT C t x h') : Inv C L J (setG gh x h') gs w t := by
  have nM : ∀ y, (setG gh x h' y).M = (gh y).M := by
    intro y
    by_cases e : y = x
    · subst e; rw [setG_same, hM']
    · rw [setG_ne e]
  have nro : ∀ y, (setG gh x h' y).ro = (gh y).ro := by
    intro y
    by_cases e : y = x
    · subst e; rw [setG_same, hro']
    · rw [setG_ne e]
  have hOw : OwnF C (setG gh x h') = OwnF C gh := by funext y l; unfold OwnF; rw [nM y]
  have hRd : RdF (setG gh x h') = RdF gh := by funext y l; unfold RdF; rw [nro y]
  refine ⟨I.sz, I.mJ, fun y y1 yJ => ?_, fun y y1 yJ => ?_, fun y y1 yJ => ?_, fun y hy => by rw [nM y, nro y]; exact I.nx y hy, by rw [hOw, hRd]; exact I.ct, I.olds, I.low, I.nrel, fun y b hb => I.hM y b (by rw [← nM y]; exact hb), fun y z b hy hz => I.hMM y z b (by rw [← nM y]; exact hy) (by rw [← nM z]; exact hz), fun y b hb => I.hro y b (by rw [← nro y]; exact hb), I.hL, I.hO, I.hOl, I.wf⟩
  · by_cases e : y = x
    · subst e; rw [setG_same]; exact ⟨g, hg, ho⟩
    · rw [setG_ne e]; exact I.hw y y1 yJ
  · by_cases e : y = x
    · subst e; rw [setG_same]; exact hr
    · rw [setG_ne e]; exact I.hr y y1 yJ
  · by_cases e : y = x
    · subst e; rw [setG_same]; exact ht
    · rw [setG_ne e]; exact I.ht y y1 yJ

/-- It works, or it has worked. -/
theorem next_work (hS : C.Stable) (I : Inv C L J gh gs w t) {x : Nat} {g : Goroutine} (hx1 : 1 ≤ x) (hxJ : x ≤ J) (hxm : C.m ≤ x) (hg : gs[x]? = some g) (hst : (gh x).stage = 8) (hd : (gh x).d = 0) (hc : CoGr C.P (C.z x (gh x)) (C.pr x) (gh x).rk (gh x).M g w) :
    (∃ h', h'.stage = 7 ∧ h'.d = 0 ∧ h'.ro = (gh x).ro ∧ OthW C w x h' g ∧ Inv C L J (setG gh x h') gs w t) ∨ Next C L J gh gs w t x g := by
  have hT := I.ht x hx1 hxJ
  have fin : C.pr x (gh x).M g w → ∃ h', h'.stage = 7 ∧ h'.d = 0 ∧ h'.ro = (gh x).ro ∧ OthW C w x h' g ∧ Inv C L J (setG gh x h') gs w t := by
    rintro ⟨_, hp⟩
    obtain ⟨v, k, h1, h2⟩ := hp I.wf
    have ho : OthW C w x { gh x with stage := 7, rk := Rk.nat k, val := v } g := ⟨k, rfl, h1, hd⟩
    refine ⟨{ gh x with stage := 7, rk := Rk.nat k, val := v }, rfl, hd, rfl, ho, inv_relabel I hx1 hxJ hg rfl rfl ho ⟨fun hlt => by omega, fun _ _ => ⟨h2, fun h6 => absurd h6 (by show ¬ 7 ≤ 6; omega)⟩⟩ ⟨hT.1, fun _ h6 => absurd h6 (by show ¬ 7 ≤ 6; omega)⟩⟩
  cases hk : (gh x).rk with
  | leaf => rw [hk] at hc; exact .inl (fin (hc w (Ry.refl _ _ _)))
  | mk f =>
    rw [hk] at hc
    rcases hc with hc | ⟨hrun, hc⟩
    · exact .inl (fin (hc w (Ry.refl _ _ _)))
    · right
      obtain ⟨g', w', es, h1, h2, h3⟩ := hc w (Ry.refl _ _ _)
      have hTlt : C.T < w.heap.size := by obtain ⟨c, h1, _⟩ := I.wf.T; exact (Array.getElem?_eq_some_iff.1 h1).1
      have hElt : C.E < w.heap.size := by obtain ⟨c, e, f, h1, _⟩ := I.wf.E; exact (Array.getElem?_eq_some_iff.1 h1).1
      have hWlt : C.Wg < w.heap.size := I.hOl _ I.hO.1
      have hWg : w'.heap[C.Wg]? = w.heap[C.Wg]? := h2.out _ hWlt (fun h => (I.hM x _ h).2.2.2.2 I.hO.1) I.wf.TE.2.1.symm I.wf.TE.2.2.symm fun h => (I.hL _ (I.hro x _ h)).2.2.2 I.hO.1
      have hch : Ch C (gh x) x w w' := ⟨h2.size, fun b hb hM hT hE _ hro => h2.out b hb hM hT hE hro, h2.part, h2.payT, h2.payE, fun ⟨st, sm, h⟩ => ⟨st, sm, hWg.trans h⟩⟩
      have hsz := h2.size
      have grlt : ∀ b, grow (gh x).M w w' b → b < w'.heap.size := fun b hb => hb.elim (fun h => by have := (I.hM x b h).1; omega) (·.2)
      have rolt : ∀ b, (gh x).ro b → b < w'.heap.size := fun b hb => by have := (I.hL b (I.hro x b hb)).1; omega
      refine ⟨g', w', es, { gh x with M := grow (gh x).M w w', rk := f w }, h1, ?_, .inr ⟨rfl, by rw [hk]; exact .of f w⟩, hWg, ⟨h2.size, fun b hb => ?_, fun b hb hro => ?_, h2.os, h2.output⟩, Iff.rfl, fun h4 => by omega, rfl⟩
      · refine inv_oth hS I hx1 hxJ hg (.inl hxm) hch rfl rfl (fun e he => ?_) ?_ ⟨fun hlt => by omega, fun _ h7 => absurd h7 (by show ¬ (gh x).stage ≤ 7; omega)⟩ ⟨?_, fun _ h6 => absurd h6 (by show ¬ (gh x).stage ≤ 6; omega)⟩
        · obtain ⟨loc, wr, sy⟩ := e
          rcases h2.ev _ he with ⟨a, ha, h⟩ | ⟨r, hr, h, hw⟩ | h | ⟨ff, h⟩
          · dsimp only at ha
            subst ha
            refine ⟨fun y hy => ?_, ?_, fun a x => by (cases x)⟩
            · simp only [MemAct.ofEvent, MemAct.touch?, Option.some.injEq] at hy
              subst hy
              right
              rcases h with h | ⟨h, hi⟩ | ⟨h, hw⟩
              · exact .inl (.inl ⟨a, rfl, .inl (by rw [setG_same]; exact h)⟩)
              · exact .inl (.inl ⟨a, rfl, .inr ⟨hxm, h, hi⟩⟩)
              · exact .inr ⟨.inl ⟨a, rfl, by rw [setG_same]; exact h⟩, hw⟩
            · show a.block < w'.heap.size
              rcases h with h | ⟨h, hi⟩ | ⟨h, hw⟩
              · exact grlt _ h
              · rcases h with h | h <;> rw [h]
                · exact Nat.lt_of_lt_of_le hTlt hsz
                · exact Nat.lt_of_lt_of_le hElt hsz
              · exact rolt _ h
          · dsimp only at hr hw
            subst hr hw
            refine ⟨fun y hy => ?_, ?_, fun a x => by (cases x)⟩
            · simp only [MemAct.ofEvent, MemAct.touch?, Option.some.injEq] at hy
              subst hy
              right
              rcases h with h | h
              · exact .inl (.inr ⟨r, rfl, by rw [setG_same]; exact h⟩)
              · exact .inr ⟨.inr ⟨r, rfl, by rw [setG_same]; exact h⟩, rfl⟩
            · show r < w'.heap.size
              rcases h with h | h
              · exact grlt _ h
              · exact rolt _ h
          · dsimp only at h
            subst h
            exact ⟨fun y hy => by (cases hy), trivial, fun a x => by (cases x)⟩
          · dsimp only at h
            subst h
            exact ⟨fun y hy => by (cases hy), trivial, fun a x => by (cases x)⟩
        · unfold OthW
          show match (gh x).stage with | 0 => _ | 8 => _ | 7 => _ | 6 => _ | 5 => _ | 4 => _ | 3 => _ | 2 => _ | _ => _
          rw [hst]
          exact ⟨h3, hd⟩
        · rw [Deaf_own]
          show deafBehind (Deaf t x) es = (gh x).d
          rw [hT.1, deafBehind_still fun e he => ?_]
          rcases h2.ev e he with ⟨a, ha, h⟩ | ⟨r, hr, h, hw⟩ | h | ⟨ff, h⟩
          · rw [ha]; simp
          · rw [hr]; simp
          · rw [h]; simp
          · rw [h]; simp
      · by_cases hro : (gh x).ro b
        · exact h2.part b hro
        · obtain ⟨a1, a2, a3, a4⟩ := I.hL b hb
          exact .of_eq (h2.out b a1 (fun h => (I.hM x b h).2.1 hb) a2 a3 hro)
      · obtain ⟨a1, a2, a3, a4⟩ := I.hL b hb
        exact h2.out b a1 (fun h => (I.hM x b h).2.1 hb) a2 a3 hro

theorem setG_setG (gh : Nat → Gh) (x : Nat) (a b : Gh) : setG (setG gh x a) x b = setG gh x b := by
  funext y
  unfold setG
  split <;> rfl
theorem Next.relabel {x : Nat} {g : Goroutine} {h1 : Gh} (hst : (gh x).stage = 8) (h7 : h1.stage = 7) (hro : h1.ro = (gh x).ro) (h : Next C L J (setG gh x h1) gs w t x g) : Next C L J gh gs w t x g := by
  obtain ⟨g', w', es, h', a1, a2, a3, a4, a5, a6, a7, a8⟩ := h
  rw [setG_setG] at a2
  rw [setG_same] at a3 a5 a6 a7 a8
  rw [hro] at a5
  refine ⟨g', w', es, h', a1, a2, .inl ?_, a4, a5, ?_, fun h => by omega, a8.trans hro⟩
  · rcases a3 with a3 | a3
    · omega
    · have := a3.1; omega
  · rw [a6, h7, hst]; omega

/-- Where another may stand that goes on: at a step of its own, or at a step on the group's cells. -/
theorem oth_next (hS : C.Stable) (I : Inv C L J gh gs w t) {x : Nat} {g : Goroutine} (hx1 : 1 ≤ x) (hxJ : x ≤ J) (hg : gs[x]? = some g) (hrun : g.status = .running) :
    Next C L J gh gs w t x g ∨ (C.m ≤ x ∧ (((gh x).stage = 5 ∧ AtD1 C.P C.ty C.Wg C.T C.n 0 (x - C.m + 1) g w) ∨ ((gh x).stage = 4 ∧ AtD2 C.P C.ty C.Wg C.T C.n 0 (x - C.m + 1) g w) ∨ ((gh x).stage = 3 ∧ AtD3 C.P C.ty C.Wg C.T C.n 0 (x - C.m + 1) g w) ∨ ((gh x).stage = 2 ∧ AtD4 C.P C.ty C.Wg g w))) := by
  obtain ⟨g1, hg1, ho⟩ := I.hw x hx1 hxJ
  rw [hg] at hg1; cases hg1
  have hR := I.hr x hx1 hxJ
  rcases Nat.lt_or_ge x C.m with hlt | hxm
  · exact .inl (next_leave hS I hx1 hxJ hg hrun (hR.1 hlt).1 ho)
  have ho' := ho
  have s7 : ∀ {gh : Nat → Gh} (I : Inv C L J gh gs w t), (gh x).stage = 7 → OthW C w x (gh x) g → Next C L J gh gs w t x g := by
    intro gh I hst ho
    unfold OthW at ho
    rw [hst] at ho
    obtain ⟨k, hk, hG, hd⟩ := ho
    rcases next_seg hS I hx1 hxJ hxm hg hk hG (fun k' g' hG' => by
      unfold OthW
      show match (gh x).stage with | 0 => _ | 8 => _ | 7 => _ | 6 => _ | 5 => _ | 4 => _ | 3 => _ | 2 => _ | _ => _
      rw [hst]; exact ⟨k', rfl, hG', hd⟩) with h | h
    · exact next_rel hS I hx1 hxJ hxm hg hst hd h
    · exact h
  unfold OthW at ho
  split at ho
  · rename_i hst; exact .inl (next_leave hS I hx1 hxJ hg hrun hst ho')
  · rename_i hst
    rcases next_work hS I hx1 hxJ hxm hg hst ho.2 ho.1 with ⟨h', e1, e2, e0, e3, e4⟩ | h
    · exact .inl (Next.relabel hst e1 e0 (s7 e4 (by rw [setG_same]; exact e1) (by rw [setG_same]; exact e3)))
    · exact .inl h
  · rename_i hst; exact .inl (s7 I hst ho')
  · rename_i hst
    obtain ⟨k, hk, hG, hd⟩ := ho
    rcases next_seg hS I hx1 hxJ hxm hg hk hG (fun k' g' hG' => by
      unfold OthW
      show match (gh x).stage with | 0 => _ | 8 => _ | 7 => _ | 6 => _ | 5 => _ | 4 => _ | 3 => _ | 2 => _ | _ => _
      rw [hst]; exact ⟨k', rfl, hG', hd⟩) with h | h
    · exact .inl (next_dis hS I hx1 hxJ hxm hg hst hd h)
    · exact .inl h
  · rename_i hst
    obtain ⟨k, hk, hG, hd⟩ := ho
    rcases next_seg hS I hx1 hxJ hxm hg hk hG (fun k' g' hG' => by
      unfold OthW
      show match (gh x).stage with | 0 => _ | 8 => _ | 7 => _ | 6 => _ | 5 => _ | 4 => _ | 3 => _ | 2 => _ | _ => _
      rw [hst]; exact ⟨k', rfl, hG', hd⟩) with h | h
    · exact .inr ⟨hxm, .inl ⟨hst, h⟩⟩
    · exact .inl h
  · rename_i hst
    obtain ⟨k, hk, hG, hd⟩ := ho
    rcases next_seg hS I hx1 hxJ hxm hg hk hG (fun k' g' hG' => by
      unfold OthW
      show match (gh x).stage with | 0 => _ | 8 => _ | 7 => _ | 6 => _ | 5 => _ | 4 => _ | 3 => _ | 2 => _ | _ => _
      rw [hst]; exact ⟨k', rfl, hG', hd⟩) with h | h
    · exact .inr ⟨hxm, .inr (.inl ⟨hst, h⟩)⟩
    · exact .inl h
  · rename_i hst
    obtain ⟨k, hk, hG, hd⟩ := ho
    rcases next_seg hS I hx1 hxJ hxm hg hk hG (fun k' g' hG' => by
      unfold OthW
      show match (gh x).stage with | 0 => _ | 8 => _ | 7 => _ | 6 => _ | 5 => _ | 4 => _ | 3 => _ | 2 => _ | _ => _
      rw [hst]; exact ⟨k', rfl, hG', hd⟩) with h | h
    · exact .inr ⟨hxm, .inr (.inr (.inl ⟨hst, h⟩))⟩
    · exact .inl h
  · rename_i hst
    obtain ⟨k, hk, hG, hd⟩ := ho
    rcases next_seg hS I hx1 hxJ hxm hg hk hG (fun k' g' hG' => by
      unfold OthW
      show match (gh x).stage with | 0 => _ | 8 => _ | 7 => _ | 6 => _ | 5 => _ | 4 => _ | 3 => _ | 2 => _ | _ => _
      rw [hst]; exact ⟨k', rfl, hG', hd⟩) with h | h
    · exact .inr ⟨hxm, .inr (.inr (.inr ⟨hst, h⟩))⟩
    · exact .inl h
  · exact ho.elim
end

end Go.Proofs.Ytcgjppacnhmjlaa.Sim
end

section
set_option linter.unusedVariables false
set_option linter.unusedSimpArgs false
set_option linter.unusedSectionVars false
/-! Steps on the group's cells. -/
namespace Go.Proofs.Ytcgjppacnhmjlaa.Sim
open Go Go.Conc Go.ConcN
open Go.ConcR (KK wgBlock WgAt stA smA rd wr mk Payload DC0)
set_option linter.unusedVariables false
set_option linter.unusedSectionVars false
variable [Payload]

/-- What is listed by a step on the group's cells. -/
def BkE (Wg : Nat) (e : Event) : Prop := e = mk .disable ∨ e = mk .enable ∨ ∃ a wr, e = ⟨.cell a, wr, true⟩ ∧ a.block = Wg

section
variable {C : FC} {L : Nat → Prop} {J : Nat} {gh : Nat → Gh} {gs : Array Goroutine} {w w' : World} {t : Trace}

theorem BkE.touch {Wg : Nat} {e : Event} (h : BkE Wg e) {y : Touch} (hy : (MemAct.ofEvent e).touch? = some y) : (∃ a, y.loc = .cell a ∧ a.block = Wg) ∧ y.kind = .atomic := by
  rcases h with rfl | rfl | ⟨a, wr, rfl, ha⟩
  · cases hy
  · cases hy
  · simp only [MemAct.ofEvent, MemAct.touch?, Option.some.injEq] at hy
    subst hy
    exact ⟨⟨a, rfl, ha⟩, by simp⟩
theorem BkE.low {Wg B : Nat} {e : Event} (h : BkE Wg e) (hB : Wg < B) : (MemAct.ofEvent e).low B := by
  rcases h with rfl | rfl | ⟨a, wr, rfl, ha⟩
  · trivial
  · trivial
  · show a.block < B
    omega
theorem BkE.rel {Wg : Nat} {e : Event} (h : BkE Wg e) (a : Addr) : e.loc ≠ .mark (.release a) := by
  rcases h with rfl | rfl | ⟨a, wr, rfl, ha⟩ <;> intro x <;> cases x
theorem Said.book {O : Nat → Prop} {Wg x r : Nat} (h : Said O (stA Wg) t x r) (hO : O Wg) {fn : FuncId} {pos : String} {es : Array Event} (hes : ∀ e ∈ es, BkE Wg e)
    (hdd : ∀ (j : Nat) e, es[j]? = some e → (MemAct.ofEvent e).touch? = none ∨ 0 < deafBehind (Deaf t x) (es.extract 0 j)) : Said O (stA Wg) (t ++ MemOp.ofEvents x fn pos es) x r := by
  refine ⟨h.rel.appOwn fn pos es fun j e he => ?_, fun i b hri hg hb hm => ?_⟩
  · rcases hdd j e he with h0 | h0
    · exact .inl h0
    · rcases hes e (Array.mem_of_getElem? he) with rfl | rfl | ⟨a, wr, rfl, ha⟩
      · exact .inl rfl
      · exact .inl rfl
      · exact .inr ⟨⟨a, wr, rfl⟩, h0⟩
  · rcases g_append hg with ⟨hi', hg'⟩ | ⟨_, op, hop, ho, hox⟩
    · rw [touchAt_old hi'] at hb
      exact h.late i b hri hg' hb hm
    · obtain ⟨e, he, rfl⟩ := ops_mem hop
      rw [touchAt_of ho] at hb
      obtain ⟨⟨a, ha, hb'⟩, hk⟩ := (hes e he).touch hb
      exact ⟨⟨a, ha, hb' ▸ hO⟩, hk⟩

/-- A step on the group's cells, of one that has said its release. -/
theorem inv_book (hS : C.Stable) (I : Inv C L J gh gs w t) {x : Nat} {g g' : Goroutine} {es : Array Event} {h' : Gh} (hx1 : 1 ≤ x) (hxJ : x ≤ J) (hxm : C.m ≤ x) (hg : gs[x]? = some g)
    (hst : (gh x).stage ≤ 6) (hA : ∀ b, b ≠ C.Wg → w'.heap[b]? = w.heap[b]?) (hsz : w'.heap.size = w.heap.size) (hlive : WgLive C.ty C.Wg w')
    (hM' : h'.M = (gh x).M) (hro' : h'.ro = (gh x).ro) (hv : h'.val = (gh x).val) (hes : ∀ e ∈ es, BkE C.Wg e)
    (hdd : ∀ (j : Nat) e, es[j]? = some e → (MemAct.ofEvent e).touch? = none ∨ 0 < deafBehind (gh x).d (es.extract 0 j)) (hd' : h'.d = deafBehind (gh x).d es) (ho : OthW C w' x h' g') :
    Inv C L J (setG gh x h') ((gs.map (woken C.P g g' w')).setIfInBounds x g') w' (t ++ MemOp.ofEvents x g.frame.fn g.frame.place es) := by
  have hWlt : C.Wg < w.heap.size := I.hOl _ I.hO.1
  have hT := I.ht x hx1 hxJ
  have hR := I.hr x hx1 hxJ
  have hgr : grow (gh x).M w w' = (gh x).M := by
    funext b
    refine propext ⟨fun h => h.elim id fun z => ?_, .inl⟩
    omega
  have nTE := I.wf.TE
  have hc : Ch C (gh x) x w w' := ⟨by omega, fun b _ _ _ _ hW _ => hA b hW, fun b hb => .of_eq (hA b fun e => (I.hL b (I.hro x b hb)).2.2.2 (e ▸ I.hO.1)), .of_eq (hA _ nTE.2.1), .of_eq (hA _ nTE.2.2), fun _ => hlive⟩
  refine inv_oth hS I hx1 hxJ hg (.inl hxm) hc (by rw [hgr]; exact hM') hro' (fun e he => ⟨fun y hy => ?_, (hes e he).low (by omega), (hes e he).rel⟩) ho ?_ ?_
  · obtain ⟨⟨a, ha, hb⟩, hk⟩ := (hes e he).touch hy
    exact .inl ⟨.inl ⟨a, ha, hb ▸ I.hO.1⟩, by rw [hk]; decide, by rw [hk]; decide⟩
  · refine ⟨fun hlt => by omega, fun _ _ => ?_⟩
    obtain ⟨b1, b2⟩ := hR.2 hxm (by omega)
    refine ⟨?_, fun _ => ?_⟩
    · rw [hv, hM']
      exact hS x _ _ w w' (fun b hb => hA b fun e => (I.hM x b hb).2.2.2.2 (e ▸ I.hO.1)) (by simp only [World.cell?]; rw [hA _ nTE.2.2]) b1
    · have := b2 hst
      unfold Has at this ⊢
      rw [hv, ← this]
      simp only [World.cell?]
      rw [hA _ nTE.2.1]
  · refine ⟨by rw [Deaf_own, hT.1, hd'], fun _ _ => ?_⟩
    obtain ⟨r, hs⟩ := hT.2 hxm hst
    exact ⟨r, hs.book I.hO.1 hes (by rw [hT.1]; exact hdd)⟩

/-- What comes of a step on the group's cells. -/
def NextD (C : FC) (L : Nat → Prop) (J : Nat) (gh : Nat → Gh) (gs : Array Goroutine) (w : World) (t : Trace) (x : Nat) (g : Goroutine) (s' : Nat) (st' sm' : Int) : Prop :=
  ∃ g' w' es h', stepG C.P false g w = .go g' w' es ∧ Inv C L J (setG gh x h') ((gs.map (woken C.P g g' w')).setIfInBounds x g') w' (t ++ MemOp.ofEvents x g.frame.fn g.frame.place es) ∧ MLt h' (gh x) ∧ WgAt C.ty C.Wg w' st' sm' ∧ Rl (gh x).ro L w w' ∧ h'.stage = s' ∧ h'.ro = (gh x).ro ∧ g'.status = .running

theorem rl_set {S : Nat → Prop} (hL : ∀ b, L b → b ≠ C.Wg) (a : Addr) (ha : a.block = C.Wg) (v : Value) : Rl S L w (w.setCell a v) := by
  have h := aside_setCell w a v
  exact ⟨by rw [h.size]; exact Nat.le_refl _, fun b hb => .of_eq (h.block b (by rw [ha]; exact hL b hb)), fun b hb _ => h.block b (by rw [ha]; exact hL b hb), h.os, h.output⟩
theorem quits_running {P : Program} {q : Nat} {g : Goroutine} (hq : QuitsD P q 1 g) : g.status = .running := by
  cases q with
  | zero => exact absurd hq.2 (by decide)
  | succ q => exact hq.elim (fun x => absurd x.2 (by decide)) (fun x => x.1)

section
variable (hS : C.Stable) (I : Inv C L J gh gs w t) {x : Nat} {g : Goroutine} (hx1 : 1 ≤ x) (hxJ : x ≤ J) (hxm : C.m ≤ x) (hg : gs[x]? = some g) (hd : (gh x).d = 1)
include hS I hx1 hxJ hxm hg hd

theorem step_d1 (hst : (gh x).stage = 5) (hD : AtD1 C.P C.ty C.Wg C.T C.n 0 (x - C.m + 1) g w) {v wt : Nat} (hwt : wt ≤ 1) (hv : v < 2147483647) (hw : WgAt C.ty C.Wg w ((v + 1) * KK + wt) 0) :
    NextD C L J gh gs w t x g (if v = 0 ∧ wt = 1 then 4 else 0) (v * KK + wt) 0 := by
  obtain ⟨hrun, hall⟩ := hD
  obtain ⟨g', hgo, h4, hq⟩ := hall v wt hwt hv hw
  have hLW : ∀ b, L b → b ≠ C.Wg := fun b hb e => (I.hL b hb).2.2.2 (e ▸ I.hO.1)
  have has := aside_setCell w (stA C.Wg) (.int .u64 (v * KK + wt))
  have hw' := hw.setSt (v * KK + wt)
  have hes : ∀ e ∈ #[rd (stA C.Wg), wr (stA C.Wg)], BkE C.Wg e := by
    intro e he
    simp at he
    rcases he with rfl | rfl
    · exact .inr (.inr ⟨_, _, rfl, rfl⟩)
    · exact .inr (.inr ⟨_, _, rfl, rfl⟩)
  have hdd : ∀ (j : Nat) e, #[rd (stA C.Wg), wr (stA C.Wg)][j]? = some e → (MemAct.ofEvent e).touch? = none ∨ 0 < deafBehind (gh x).d (#[rd (stA C.Wg), wr (stA C.Wg)].extract 0 j) := by
    intro jx e he
    rw [hd]
    match jx, he with
    | 0, _ => exact .inr (by simp [deafBehind])
    | 1, _ => exact .inr (by simp [deafBehind, rd])
    | jx + 2, he => simp at he
  by_cases hz : v = 0 ∧ wt = 1
  · obtain ⟨k, hG⟩ := h4 hz
    refine ⟨g', _, _, { gh x with stage := 4, rk := Rk.nat k }, hgo, inv_book hS I hx1 hxJ hxm hg (by omega) (fun b hb => has.block b hb) has.size ⟨_, _, hw'⟩ rfl rfl rfl hes hdd (by rw [hd]; rfl) ⟨k, rfl, hG, hd⟩, .inl (by show 4 < (gh x).stage; omega), hw', rl_set hLW _ rfl _, by rw [if_pos hz], rfl, ?_⟩
    exact goes_status (RW.refl' ..) (fun _ _ x => x.1) hG
  · obtain ⟨q, hQ⟩ := hq hz
    refine ⟨g', _, _, { gh x with stage := 0, rk := Rk.nat q }, hgo, inv_book hS I hx1 hxJ hxm hg (by omega) (fun b hb => has.block b hb) has.size ⟨_, _, hw'⟩ rfl rfl rfl hes hdd (by rw [hd]; rfl) ⟨q, rfl, by rw [show ({ gh x with stage := 0, rk := Rk.nat q } : Gh).d = 1 from hd]; exact hQ⟩, .inl (by show 0 < (gh x).stage; omega), hw', rl_set hLW _ rfl _, by rw [if_neg hz], rfl, quits_running hQ⟩

theorem step_d2 (hst : (gh x).stage = 4) (hD : AtD2 C.P C.ty C.Wg C.T C.n 0 (x - C.m + 1) g w) (hw : WgAt C.ty C.Wg w 1 0) : NextD C L J gh gs w t x g 3 1 0 := by
  obtain ⟨hrun, hall⟩ := hD
  obtain ⟨g', hgo, k, hG⟩ := hall hw
  refine ⟨g', w, _, { gh x with stage := 3, rk := Rk.nat k }, hgo, inv_book hS I hx1 hxJ hxm hg (by omega) (fun b hb => rfl) rfl ⟨_, _, hw⟩ rfl rfl rfl ?_ ?_ (by rw [hd]; rfl) ⟨k, rfl, hG, hd⟩, .inl (by show 3 < (gh x).stage; omega), hw, .refl _ L w, rfl, rfl, ?_⟩
  · intro e he
    simp at he
    subst he
    exact .inr (.inr ⟨_, _, rfl, rfl⟩)
  · intro jx e he
    rw [hd]
    match jx, he with
    | 0, _ => exact .inr (by simp [deafBehind])
    | jx + 1, he => simp at he
  · exact goes_status (RW.refl' ..) (fun _ _ x => x.1) hG

theorem step_d3 (hst : (gh x).stage = 3) (hD : AtD3 C.P C.ty C.Wg C.T C.n 0 (x - C.m + 1) g w) (hw : WgAt C.ty C.Wg w 1 0) : NextD C L J gh gs w t x g 2 0 0 := by
  obtain ⟨hrun, hall⟩ := hD
  obtain ⟨g', hgo, k, hG⟩ := hall hw
  have hLW : ∀ b, L b → b ≠ C.Wg := fun b hb e => (I.hL b hb).2.2.2 (e ▸ I.hO.1)
  have has := aside_setCell w (stA C.Wg) (.int .u64 0)
  have hw' := hw.setSt 0
  refine ⟨g', _, _, { gh x with stage := 2, rk := Rk.nat k }, hgo, inv_book hS I hx1 hxJ hxm hg (by omega) (fun b hb => has.block b hb) has.size ⟨_, _, hw'⟩ rfl rfl rfl ?_ ?_ (by rw [hd]; rfl) ⟨k, rfl, hG, hd⟩, .inl (by show 2 < (gh x).stage; omega), hw', rl_set hLW _ rfl _, rfl, rfl, ?_⟩
  · intro e he
    simp at he
    subst he
    exact .inr (.inr ⟨_, _, rfl, rfl⟩)
  · intro jx e he
    rw [hd]
    match jx, he with
    | 0, _ => exact .inr (by simp [deafBehind])
    | jx + 1, he => simp at he
  · exact goes_status (RW.refl' ..) (fun _ _ x => x.1) hG

theorem step_d4 (hst : (gh x).stage = 2) (hD : AtD4 C.P C.ty C.Wg g w) (hw : WgAt C.ty C.Wg w 0 0) : mayWake C.P g = true ∧ NextD C L J gh gs w t x g 0 0 1 := by
  obtain ⟨hrun, hmw, hall⟩ := hD
  obtain ⟨g', hgo, q, hQ⟩ := hall hw
  have hLW : ∀ b, L b → b ≠ C.Wg := fun b hb e => (I.hL b hb).2.2.2 (e ▸ I.hO.1)
  have has := aside_setCell w (smA C.Wg) (.int .u32 1)
  have hw' := hw.setSm 1
  refine ⟨hmw, g', _, _, { gh x with stage := 0, rk := Rk.nat q }, hgo, inv_book hS I hx1 hxJ hxm hg (by omega) (fun b hb => has.block b hb) has.size ⟨_, _, hw'⟩ rfl rfl rfl ?_ ?_ (by simp [hd, deafBehind, semEvents]) ⟨q, rfl, by rw [show ({ gh x with stage := 0, rk := Rk.nat q } : Gh).d = 1 from hd]; exact hQ⟩, .inl (by show 0 < (gh x).stage; omega), hw', rl_set hLW _ rfl _, rfl, rfl, quits_running hQ⟩
  · intro e he
    simp [semEvents] at he
    rcases he with rfl | rfl | rfl | rfl
    · exact .inl rfl
    · exact .inr (.inr ⟨_, _, rfl, rfl⟩)
    · exact .inr (.inr ⟨_, _, rfl, rfl⟩)
    · exact .inr (.inl rfl)
  · intro jx e he
    rw [hd]
    match jx, he with
    | 0, he => simp [semEvents] at he; subst he; exact .inl rfl
    | 1, _ => exact .inr (by simp [deafBehind, semEvents])
    | 2, _ => exact .inr (by simp [deafBehind, semEvents])
    | 3, he => simp [semEvents] at he; subst he; exact .inl rfl
    | jx + 4, he => simp [semEvents] at he
end
end

end Go.Proofs.Ytcgjppacnhmjlaa.Sim
end
