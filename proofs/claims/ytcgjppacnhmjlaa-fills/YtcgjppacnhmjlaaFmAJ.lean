/- Own texts: FjG, FjH. -/
import Derived.Test.YtcgjppacnhmjlaaFmAI

section
set_option linter.unusedVariables false
set_option linter.unusedSimpArgs false
set_option linter.unusedSectionVars false
/-! The machine goes down while others go; goroutine 0 in company. -/
namespace Go.Proofs.Ytcgjppacnhmjlaa.Sim
open Go Go.Conc Go.ConcN
open Go.ConcR (KK wgBlock WgAt stA smA rd wr mk Payload DC0)
set_option linter.unusedVariables false
set_option linter.unusedSectionVars false
variable [Payload]

theorem MLt.acc : ∀ h : Gh, Acc MLt h := by
  have key : ∀ n (h : Gh), h.stage = n → Acc MLt h := by
    intro n
    induction n using Nat.strongRecOn with
    | _ n ih =>
      have : ∀ r : Rk, ∀ h : Gh, h.rk = r → h.stage = n → Acc MLt h := by
        intro r
        induction Rk.acc r with
        | intro r _ ihr =>
          intro h hr hs
          refine ⟨_, fun y hy => ?_⟩
          rcases hy with hy | ⟨hy1, hy2⟩
          · exact ih y.stage (by omega) y rfl
          · exact ihr y.rk (by rw [← hr]; exact hy2) y rfl (by omega)
      exact fun h hs => this h.rk h rfl hs
  exact fun h => key h.stage h rfl

def GLt (J : Nat) (gh' gh : Nat → Gh) : Prop := ∃ x, 1 ≤ x ∧ x ≤ J ∧ MLt (gh' x) (gh x) ∧ ∀ y, y ≠ x → gh' y = gh y
theorem GLt.acc : ∀ (J : Nat) (gh : Nat → Gh), Acc (GLt J) gh
  | 0, gh => ⟨_, fun y h => by obtain ⟨x, h1, h2, _⟩ := h; omega⟩
  | J + 1, gh => by
    have IH := GLt.acc J
    have : ∀ h : Gh, ∀ gh : Nat → Gh, gh (J + 1) = h → Acc (GLt (J + 1)) gh := by
      intro h
      induction MLt.acc h with
      | intro h _ ih =>
        intro gh
        induction IH gh with
        | intro gh _ ih2 =>
          intro he
          refine ⟨_, fun y hy => ?_⟩
          obtain ⟨x, h1, h2, h3, h4⟩ := hy
          by_cases hx : x = J + 1
          · subst hx
            exact ih (y (J + 1)) (by rw [← he]; exact h3) y rfl
          · exact ih2 y ⟨x, h1, by omega, h3, h4⟩ (by rw [h4 (J + 1) (Ne.symm hx)]; exact he)
    exact this _ gh rfl
theorem GLt.set {J x : Nat} {gh : Nat → Gh} {h' : Gh} (h1 : 1 ≤ x) (h2 : x ≤ J) (h : MLt h' (gh x)) : GLt J (setG gh x h') gh := ⟨x, h1, h2, by rw [setG_same]; exact h, fun y hy => setG_ne hy⟩

def cntG (h : Gh) : Nat := if 5 ≤ h.stage then 1 else 0
def Vg (m J : Nat) (gh : Nat → Gh) : Nat := sumTo (J + 1 - m) fun i => cntG (gh (m + i))
section
variable {m J x : Nat} {gh : Nat → Gh} {h' : Gh}
theorem Vg_set (hm : m ≤ x) (hJ : x ≤ J) : Vg m J (setG gh x h') + cntG (gh x) = Vg m J gh + cntG h' := by
  have := sumTo_upd (fun i => gh (m + i)) h' cntG (i := x - m) (j := J + 1 - m) (by omega)
  have e : (fun i => cntG (setG gh x h' (m + i))) = fun i => cntG (upd (fun i => gh (m + i)) (x - m) h' i) := by
    funext i
    unfold setG upd
    by_cases hi : i = x - m
    · rw [if_pos (by omega), if_pos hi]
    · rw [if_neg (by omega), if_neg hi]
  unfold Vg
  rw [e]
  simpa [show m + (x - m) = x by omega] using this
theorem Vg_out (hm : x < m ∨ J < x) : Vg m J (setG gh x h') = Vg m J gh := by
  unfold Vg
  exact sumTo_congr fun i hi => by rw [setG_ne (by omega)]
theorem Vg_pos (hm : m ≤ x) (hJ : x ≤ J) (h : 5 ≤ (gh x).stage) : 1 ≤ Vg m J gh := by
  have := le_sumTo (f := fun i => cntG (gh (m + i))) (i := x - m) (j := J + 1 - m) (by omega)
  simp only [show m + (x - m) = x by omega, cntG, if_pos h] at this
  exact this
theorem Vg_le : Vg m J gh ≤ J + 1 - m := by
  have := sumTo_le (f := fun i => cntG (gh (m + i))) (c := 1) (j := J + 1 - m) fun i _ => by unfold cntG; split <;> omega
  simpa [Vg] using this
theorem Vg_some (h : 1 ≤ Vg m J gh) : ∃ x, m ≤ x ∧ x ≤ J ∧ 5 ≤ (gh x).stage := by
  have key : ∀ j, 1 ≤ sumTo j (fun i => cntG (gh (m + i))) → ∃ i, i < j ∧ 5 ≤ (gh (m + i)).stage := by
    intro j
    induction j with
    | zero => intro h; simp [sumTo] at h
    | succ j ih =>
      intro h
      by_cases h5 : 5 ≤ (gh (m + j)).stage
      · exact ⟨j, by omega, h5⟩
      · simp only [sumTo, cntG, if_neg h5] at h
        obtain ⟨i, h1, h2⟩ := ih (by simpa [cntG] using h)
        exact ⟨i, by omega, h2⟩
  obtain ⟨i, h1, h2⟩ := key _ h
  exact ⟨m + i, by omega, by omega, h2⟩
theorem Vg_succ (hm : m ≤ J + 1) : Vg m (J + 1) gh = Vg m J gh + cntG (gh (J + 1)) := by
  unfold Vg
  rw [show J + 1 + 1 - m = (J + 1 - m) + 1 by omega, sumTo, show m + (J + 1 - m) = J + 1 by omega]
/-- One alone is counted. -/
theorem Vg_one (hm : m ≤ x) (hJ : x ≤ J) (h5 : 5 ≤ (gh x).stage) (h1 : Vg m J gh = 1) : ∀ y, m ≤ y → y ≤ J → y ≠ x → ¬ 5 ≤ (gh y).stage := by
  intro y hy hyJ hne h
  have a := Vg_set (gh := gh) (h' := { gh x with stage := 0 }) hm hJ
  have b : 1 ≤ Vg m J (setG gh x { gh x with stage := 0 }) := Vg_pos hy hyJ (by rw [setG_ne hne]; exact h)
  have c0 : cntG { gh x with stage := 0 } = 0 := rfl
  have c1 : cntG (gh x) = 1 := if_pos h5
  omega
end

/-- Another's step keeps it. -/
def Kp (C : FC) (J : Nat) (Mo : (Nat → Gh) → Int → Int → Prop) : Prop := ∀ L gh gs w t st sm x g, Inv C L J gh gs w t → WgAt C.ty C.Wg w st sm → Mo gh st sm → 1 ≤ x → x ≤ J → gs[x]? = some g → g.status = .running →
  ∃ g' w' es h' st' sm', stepG C.P false g w = .go g' w' es ∧ Inv C L J (setG gh x h') ((gs.map (woken C.P g g' w')).setIfInBounds x g') w' (t ++ MemOp.ofEvents x g.frame.fn g.frame.place es) ∧ MLt h' (gh x) ∧ WgAt C.ty C.Wg w' st' sm' ∧ Mo (setG gh x h') st' sm' ∧ Rl (gh x).ro L w w' ∧ h'.ro = (gh x).ro ∧ (sm' = sm ∨ (mayWake C.P g = true ∧ g'.status = .running))

/-- The group is open: nobody waits; 'p': an Add is made whose worker is not started yet. -/
def MoO (C : FC) (J p vb : Nat) (gh : Nat → Gh) (st sm : Int) : Prop :=
  (∀ x, C.m ≤ x → x ≤ J → (gh x).stage = 0 ∨ 5 ≤ (gh x).stage) ∧ st = ((Vg C.m J gh + p : Nat) : Int) * KK ∧ sm = 0 ∧ Vg C.m J gh ≤ vb
/-- Goroutine 0 is registered. -/
def MoR (C : FC) (J : Nat) (gh : Nat → Gh) (st sm : Int) : Prop :=
  ((∀ x, C.m ≤ x → x ≤ J → (gh x).stage = 0 ∨ 5 ≤ (gh x).stage) ∧ 1 ≤ Vg C.m J gh ∧ st = ((Vg C.m J gh : Nat) : Int) * KK + 1 ∧ sm = 0) ∨
  (∃ x, C.m ≤ x ∧ x ≤ J ∧ ((gh x).stage = 4 ∨ (gh x).stage = 3 ∨ (gh x).stage = 2) ∧ (∀ y, C.m ≤ y → y ≤ J → y ≠ x → (gh y).stage = 0) ∧ st = (if (gh x).stage = 2 then 0 else 1) ∧ sm = 0) ∨
  ((∀ x, C.m ≤ x → x ≤ J → (gh x).stage = 0) ∧ st = 0 ∧ sm = 1)

section
variable {C : FC} {S L : Nat → Prop} {J : Nat} {gh : Nat → Gh} {gs : Array Goroutine} {w w' : World} {t : Trace} {p vb d0 : Nat} {Mo : (Nat → Gh) → Int → Int → Prop}

theorem inv_at (hS : C.Stable) (I : Inv C L J gh gs w t) (d : Nat) : Inv C L J gh gs (w.at d) t := by
  refine ⟨I.sz, I.mJ, fun x h1 h2 => ?_, fun x h1 h2 => ?_, I.ht, I.nx, I.ct, I.olds, I.low, I.nrel, I.hM, I.hMM, I.hro, I.hL, I.hO, I.hOl, ⟨I.wf.T, I.wf.E, I.wf.TE, I.wf.wg⟩⟩
  · obtain ⟨g, a, b⟩ := I.hw x h1 h2
    exact ⟨g, a, othW_rely b (Ry.at _ _ _ _) ⟨fun _ _ _ _ => rfl, id, id, rfl⟩⟩
  · obtain ⟨a, b⟩ := I.hr x h1 h2
    exact ⟨a, fun c e => ⟨hS x _ _ w _ (fun _ _ => rfl) rfl (b c e).1, (b c e).2⟩⟩

theorem ro_set {x : Nat} {h' : Gh} (hro : ∀ x b, (gh x).ro b → S b) (h : h'.ro = (gh x).ro) : ∀ y b, (setG gh x h' y).ro b → S b := by
  intro y b hb
  by_cases e : y = x
  · subst e; rw [setG_same, h] at hb; exact hro y b hb
  · rw [setG_ne e] at hb; exact hro y b hb

theorem vg_same {x : Nat} {h' : Gh} (hxJ : x ≤ J) (h : 5 ≤ h'.stage ↔ 5 ≤ (gh x).stage) : Vg C.m J (setG gh x h') = Vg C.m J gh := by
  rcases Nat.lt_or_ge x C.m with hlt | hge
  · exact Vg_out (.inl hlt)
  · have := Vg_set (gh := gh) (h' := h') hge hxJ
    have e : cntG h' = cntG (gh x) := by unfold cntG; simp only [h]
    omega
theorem open_same {x : Nat} {h' : Gh} (h6 : 5 ≤ h'.stage ↔ 5 ≤ (gh x).stage) (h7 : (gh x).stage ≤ 4 → h'.stage = (gh x).stage) (h : ∀ x, C.m ≤ x → x ≤ J → (gh x).stage = 0 ∨ 5 ≤ (gh x).stage) : ∀ y, C.m ≤ y → y ≤ J → (setG gh x h' y).stage = 0 ∨ 5 ≤ (setG gh x h' y).stage := by
  intro y hy hyJ
  by_cases e : y = x
  · subst e
    rw [setG_same]
    rcases h y hy hyJ with h0 | h5
    · exact .inl ((h7 (by omega)).trans h0)
    · exact .inr (h6.2 h5)
  · rw [setG_ne e]; exact h y hy hyJ
theorem oth_d {x : Nat} {h : Gh} {g : Goroutine} (ho : OthW C w x h g) (h2 : 2 ≤ h.stage) (h5 : h.stage ≤ 5) : h.d = 1 := by
  unfold OthW at ho
  split at ho <;> first | omega | (obtain ⟨_, _, _, hd⟩ := ho; exact hd) | exact ho.elim
theorem oth_running {x : Nat} {h : Gh} {g : Goroutine} (ho : OthW C w x h g) (h0 : h.stage ≠ 0) : g.status = .running := by
  have ho' := ho
  unfold OthW at ho
  split at ho
  · rename_i e; exact absurd e h0
  · obtain ⟨hc, _⟩ := ho
    have hpr : C.pr x h.M g w → g.status = .running := fun h1 => h1.1
    cases hk : h.rk with
    | leaf => rw [hk] at hc; exact hpr (hc w (Ry.refl _ _ _))
    | mk f => rw [hk] at hc; exact hc.elim (fun x => hpr (x w (Ry.refl _ _ _))) (·.1)
  · obtain ⟨k, _, h1, _⟩ := ho; exact goes_status (RW.refl' ..) (fun _ _ x => x.1) h1
  · obtain ⟨k, _, h1, _⟩ := ho; exact goes_status (RW.refl' ..) (fun _ _ x => x.1) h1
  · obtain ⟨k, _, h1, _⟩ := ho; exact goes_status (RW.refl' ..) (fun _ _ x => x.1) h1
  · obtain ⟨k, _, h1, _⟩ := ho; exact goes_status (RW.refl' ..) (fun _ _ x => x.1) h1
  · obtain ⟨k, _, h1, _⟩ := ho; exact goes_status (RW.refl' ..) (fun _ _ x => x.1) h1
  · obtain ⟨k, _, h1, _⟩ := ho; exact goes_status (RW.refl' ..) (fun _ _ x => x.1) h1
  · exact ho.elim

theorem kp_open (hS : C.Stable) (hn : J + 1 - C.m < 2147483600) (hp : p ≤ 1) : Kp C J (MoO C J p vb) := by
  intro L gh gs w t st sm x g I hw ⟨h1, h2, h3, h4⟩ hx1 hxJ hg hrun
  subst h2 h3
  rcases oth_next hS I hx1 hxJ hg hrun with ⟨g', w', es, h', a1, a2, a3, a4, a5, a6, a7, a8⟩ | ⟨hxm, hD⟩
  · have hv := vg_same (C := C) hxJ a6
    exact ⟨g', w', es, h', _, _, a1, a2, a3, hw.of_block a4, ⟨open_same a6 a7 h1, by rw [hv], rfl, by rw [hv]; exact h4⟩, a5, a8, .inl rfl⟩
  · have hop := h1 x hxm hxJ
    rcases hD with ⟨hst, hD⟩ | ⟨hst, _⟩ | ⟨hst, _⟩ | ⟨hst, _⟩
    · have b1 := Vg_pos (m := C.m) hxm hxJ (show 5 ≤ (gh x).stage by omega)
      have b2 := Vg_le (m := C.m) (J := J) (gh := gh)
      obtain ⟨v, hv⟩ : ∃ v, Vg C.m J gh + p = v + 1 := ⟨Vg C.m J gh + p - 1, by omega⟩
      have hd : (gh x).d = 1 := by
        obtain ⟨g1, _, ho⟩ := I.hw x hx1 hxJ
        exact oth_d ho (by omega) (by omega)
      have hw1 : WgAt C.ty C.Wg w (((v : Nat) + 1 : Int) * KK + ((0 : Nat) : Int)) 0 := by
        rw [hv] at hw
        simpa using hw
      obtain ⟨g', w', es, h', b1, b2, b3, b4, b5, b6, b7, b8⟩ := step_d1 hS I hx1 hxJ hxm hg hd hst hD (v := v) (wt := 0) (by omega) (by omega) hw1
      have h0 : h'.stage = 0 := by rw [b6, if_neg (by omega)]
      have hv' : Vg C.m J (setG gh x h') + 1 = Vg C.m J gh := by
        have := Vg_set (gh := gh) (h' := h') hxm hxJ
        simp only [cntG, h0, hst] at this
        simpa using this
      refine ⟨g', w', es, h', _, _, b1, b2, b3, b4, ⟨fun y hy hyJ => ?_, ?_, rfl, by omega⟩, b5, b7, .inl rfl⟩
      · by_cases e : y = x
        · subst e; rw [setG_same]; exact .inl h0
        · rw [setG_ne e]; exact h1 y hy hyJ
      · rw [show Vg C.m J (setG gh x h') + p = v by omega]; simp
    · omega
    · omega
    · omega

theorem kp_reg (hS : C.Stable) (hn : J + 1 - C.m < 2147483600) : Kp C J (MoR C J) := by
  intro L gh gs w t st sm x g I hw hM hx1 hxJ hg hrun
  rcases oth_next hS I hx1 hxJ hg hrun with ⟨g', w', es, h', a1, a2, a3, a4, a5, a6, a7, a8⟩ | ⟨hxm, hD⟩
  · have hv := vg_same (C := C) hxJ a6
    refine ⟨g', w', es, h', st, sm, a1, a2, a3, hw.of_block a4, ?_, a5, a8, .inl rfl⟩
    rcases hM with ⟨h1, h2, h3, h4⟩ | ⟨z, z1, z2, z3, z4, z5, z6⟩ | ⟨h1, h2, h3⟩
    · exact .inl ⟨open_same a6 a7 h1, by rw [hv]; exact h2, by rw [hv]; exact h3, h4⟩
    · refine .inr (.inl ⟨z, z1, z2, ?_, fun y hy hyJ hne => ?_, ?_, z6⟩)
      · by_cases e : z = x
        · subst e; rw [setG_same, a7 (by omega)]; exact z3
        · rw [setG_ne e]; exact z3
      · by_cases e : y = x
        · subst e; rw [setG_same, a7 (by have := z4 y hy hyJ hne; omega)]; exact z4 y hy hyJ hne
        · rw [setG_ne e]; exact z4 y hy hyJ hne
      · by_cases e : z = x
        · subst e; rw [setG_same, a7 (by omega)]; exact z5
        · rw [setG_ne e]; exact z5
    · refine .inr (.inr ⟨fun y hy hyJ => ?_, h2, h3⟩)
      by_cases e : y = x
      · subst e; rw [setG_same, a7 (by have := h1 y hy hyJ; omega)]; exact h1 y hy hyJ
      · rw [setG_ne e]; exact h1 y hy hyJ
  · have hdd : ∀ {s}, (gh x).stage = s → 2 ≤ s → s ≤ 5 → (gh x).d = 1 := by
      intro s hs h2 h5
      obtain ⟨g1, _, ho⟩ := I.hw x hx1 hxJ
      exact oth_d ho (by omega) (by omega)
    have last : (gh x).stage = 4 ∨ (gh x).stage = 3 ∨ (gh x).stage = 2 → (∀ y, C.m ≤ y → y ≤ J → y ≠ x → (gh y).stage = 0) ∧ st = (if (gh x).stage = 2 then 0 else 1) ∧ sm = 0 := by
      intro hs
      rcases hM with ⟨h1, h2, h3, h4⟩ | ⟨z, z1, z2, z3, z4, z5, z6⟩ | ⟨h1, h2, h3⟩
      · have := h1 x hxm hxJ; omega
      · by_cases e : x = z
        · subst e; exact ⟨z4, z5, z6⟩
        · have := z4 x hxm hxJ e; omega
      · have := h1 x hxm hxJ; omega
    rcases hD with ⟨hst, hD⟩ | ⟨hst, hD⟩ | ⟨hst, hD⟩ | ⟨hst, hD⟩
    · rcases hM with ⟨h1, h2, h3, h4⟩ | ⟨z, z1, z2, z3, z4, z5, z6⟩ | ⟨h1, h2, h3⟩
      · subst h3 h4
        have b2 := Vg_le (m := C.m) (J := J) (gh := gh)
        obtain ⟨v, hv⟩ : ∃ v, Vg C.m J gh = v + 1 := ⟨Vg C.m J gh - 1, by omega⟩
        have hw1 : WgAt C.ty C.Wg w (((v : Nat) + 1 : Int) * KK + ((1 : Nat) : Int)) 0 := by
          rw [hv] at hw
          simpa using hw
        obtain ⟨g', w', es, h', b1, b2, b3, b4, b5, b6, b7, b8⟩ := step_d1 hS I hx1 hxJ hxm hg (hdd hst (by omega) (by omega)) hst hD (v := v) (wt := 1) (by omega) (by omega) hw1
        refine ⟨g', w', es, h', _, _, b1, b2, b3, b4, ?_, b5, b7, .inl rfl⟩
        by_cases hv0 : v = 0
        · have h40 : h'.stage = 4 := by rw [b6, if_pos (by omega)]
          refine .inr (.inl ⟨x, hxm, hxJ, by rw [setG_same]; exact .inl h40, fun y hy hyJ hne => ?_, ?_, rfl⟩)
          · rw [setG_ne hne]
            have := Vg_one (m := C.m) hxm hxJ (show 5 ≤ (gh x).stage by omega) (by omega) y hy hyJ hne
            have := h1 y hy hyJ
            omega
          · rw [setG_same, h40, hv0]; simp
        · have h0 : h'.stage = 0 := by rw [b6, if_neg (by omega)]
          have hv' : Vg C.m J (setG gh x h') + 1 = Vg C.m J gh := by
            have := Vg_set (gh := gh) (h' := h') hxm hxJ
            simp only [cntG, h0, hst] at this
            simpa using this
          refine .inl ⟨fun y hy hyJ => ?_, by omega, ?_, rfl⟩
          · by_cases e : y = x
            · subst e; rw [setG_same]; exact .inl h0
            · rw [setG_ne e]; exact h1 y hy hyJ
          · rw [show Vg C.m J (setG gh x h') = v by omega]; simp
      · have : x ≠ z := fun e => by subst e; omega
        have := z4 x hxm hxJ this; omega
      · have := h1 x hxm hxJ; omega
    · obtain ⟨l1, l2, l3⟩ := last (.inl hst)
      rw [hst] at l2
      subst l2 l3
      obtain ⟨g', w', es, h', b1, b2, b3, b4, b5, b6, b7, b8⟩ := step_d2 hS I hx1 hxJ hxm hg (hdd hst (by omega) (by omega)) hst hD (by simpa using hw)
      refine ⟨g', w', es, h', _, _, b1, b2, b3, b4, .inr (.inl ⟨x, hxm, hxJ, by rw [setG_same]; exact .inr (.inl b6), fun y hy hyJ hne => by rw [setG_ne hne]; exact l1 y hy hyJ hne, by rw [setG_same, b6]; simp, rfl⟩), b5, b7, .inl rfl⟩
    · obtain ⟨l1, l2, l3⟩ := last (.inr (.inl hst))
      rw [hst] at l2
      subst l2 l3
      obtain ⟨g', w', es, h', b1, b2, b3, b4, b5, b6, b7, b8⟩ := step_d3 hS I hx1 hxJ hxm hg (hdd hst (by omega) (by omega)) hst hD (by simpa using hw)
      refine ⟨g', w', es, h', _, _, b1, b2, b3, b4, .inr (.inl ⟨x, hxm, hxJ, by rw [setG_same]; exact .inr (.inr b6), fun y hy hyJ hne => by rw [setG_ne hne]; exact l1 y hy hyJ hne, by rw [setG_same, b6]; simp, rfl⟩), b5, b7, .inl rfl⟩
    · obtain ⟨l1, l2, l3⟩ := last (.inr (.inr hst))
      rw [hst] at l2
      subst l2 l3
      obtain ⟨hmw, g', w', es, h', b1, b2, b3, b4, b5, b6, b7, b8⟩ := step_d4 hS I hx1 hxJ hxm hg (hdd hst (by omega) (by omega)) hst hD (by simpa using hw)
      refine ⟨g', w', es, h', _, _, b1, b2, b3, b4, .inr (.inr ⟨fun y hy hyJ => ?_, rfl, rfl⟩), b5, b7, .inr ⟨hmw, b8⟩⟩
      by_cases e : y = x
      · subst e; rw [setG_same]; exact b6
      · rw [setG_ne e]; exact l1 y hy hyJ e

/-- The company in which goroutine 0 is. -/
structure Sit (C : FC) (S L : Nat → Prop) (J : Nat) (Mo : (Nat → Gh) → Int → Int → Prop) (d0 : Nat) (gh : Nat → Gh) (gs : Array Goroutine) (w : World) (t : Trace) : Prop where
  inv : Inv C L J gh gs w t
  mo : ∃ st sm, WgAt C.ty C.Wg w st sm ∧ Mo gh st sm
  deaf : Deaf t 0 = d0
  ro : ∀ x b, (gh x).ro b → S b
theorem Sit.at (hS : C.Stable) (h : Sit C S L J Mo d0 gh gs w t) (d : Nat) : Sit C S L J Mo d0 gh gs (w.at d) t := ⟨inv_at hS h.inv d, h.mo, h.deaf, h.ro⟩

/-- What comes of a step of another's. -/
theorem sit_oth (hk : Kp C J Mo) (h : Sit C S L J Mo d0 gh gs w t) {x : Nat} {g : Goroutine} (hx1 : 1 ≤ x) (hxJ : x ≤ J) (hg : gs[x]? = some g) (hrun : g.status = .running) :
    ∃ g' w' es gh', stepG C.P false g w = .go g' w' es ∧ Sit C S L J Mo d0 gh' ((gs.map (woken C.P g g' w')).setIfInBounds x g') w' (t ++ MemOp.ofEvents x g.frame.fn g.frame.place es) ∧ GLt J gh' gh ∧ Rl S L w w' ∧
      ∃ st sm st' sm', WgAt C.ty C.Wg w st sm ∧ WgAt C.ty C.Wg w' st' sm' ∧ (sm' = sm ∨ (mayWake C.P g = true ∧ g'.status = .running)) := by
  obtain ⟨st, sm, m1, m2⟩ := h.mo
  obtain ⟨g', w', es, h', st', sm', a1, a2, a3, a4, a5, a6, a7, a8⟩ := hk L gh gs w t st sm x g h.inv m1 m2 hx1 hxJ hg hrun
  refine ⟨g', w', es, setG gh x h', a1, ⟨a2, ⟨st', sm', a4, a5⟩, ?_, ro_set h.ro a7⟩, .set hx1 hxJ a3, a6.mono (h.ro x), st, sm, st', sm', m1, a4, a8⟩
  rw [Deaf_other t (g' := x) (by omega) _ (fun op hop => ops_g hop)]; exact h.deaf

/-- ████ GOROUTINE 0 IN COMPANY: it stands so; the run ends well. ████ -/
def OFin (C : FC) (Post : Value → World → Prop) (S L : Nat → Prop) (J : Nat) (Mo : (Nat → Gh) → Int → Int → Prop) (d0 : Nat) (fr : Frame) (cs : List Frame) (w0 : World) : Prop :=
  ∀ w gs sl t gh, Rl S L w0 w → gs[0]? = some (gor fr cs) → Sit C S L J Mo d0 gh gs w t → Fin C.P Post (crowd gs w sl) t

theorem Sit.awake (h : Sit C S L J Mo d0 gh gs w t) {a : Goroutine} (h0 : gs[0]? = some a) (ha : Go.Conc.awake a) : ∀ g ∈ gs, Go.Conc.awake g := by
  intro g hg
  obtain ⟨i, hi, rfl⟩ := Array.mem_iff_getElem.1 hg
  rcases Nat.eq_zero_or_pos i with rfl | hpos
  · have : gs[0] = a := by simpa [Array.getElem?_eq_getElem hi] using h0
    rw [this]; exact ha
  · obtain ⟨g, a1, a2⟩ := h.inv.hw i hpos (by have := h.inv.sz; omega)
    rw [Array.getElem?_eq_getElem hi] at a1
    cases a1
    exact awake_of ((othW_status a2).elim .inl fun x => .inr (.inr x))

theorem OFin.of_main {Post : Value → World → Prop} {fr : Frame} {cs : List Frame} {w0 : World} (hS : C.Stable) (hk : Kp C J Mo)
    (h : ∀ w gs sl t gh, Rl S L w0 w → gs[0]? = some (gor fr cs) → Sit C S L J Mo d0 gh gs w t → ∃ m' ops, runT C.P (crowd gs w sl) 0 = (.next m', ops) ∧ Fin C.P Post m' (t ++ ops)) : OFin C Post S L J Mo d0 fr cs w0 := by
  intro w gs sl t gh
  induction GLt.acc J gh generalizing w gs sl t with
  | intro gh _ ih =>
    intro hrl h0 hs
    refine Fin.pick (hs.awake h0 (awake_of (.inl rfl))) ⟨0, _, h0, rfl⟩ fun i g d sl' hi hg => .inl ?_
    have hs' := hs.at hS d
    have hrl' := hrl.trans (Rl.at S L w d)
    rcases Nat.eq_zero_or_pos i with rfl | hpos
    · exact h (w.at d) gs sl' t gh hrl' h0 hs'
    · have hiJ : i ≤ J := by
        have := (Array.getElem?_eq_some_iff.1 hi).1
        have := hs.inv.sz
        omega
      obtain ⟨g', w', es, gh', a1, a2, a3, a4, _⟩ := sit_oth hk hs' hpos hiJ hi hg
      have hi0 : (i == 0) = false := by simp; omega
      refine ⟨_, _, runT_crowd_go (P := C.P) (sl := sl') (i := i) hi (by rw [hi0]; exact a1), ?_⟩
      refine ih gh' a3 w' _ sl' _ (hrl'.trans a4) ?_ a2
      rw [Array.getElem?_setIfInBounds_ne (by omega), Array.getElem?_map, h0]
      simp [woken_run (show (gor fr cs).status = .running from rfl)]
end

end Go.Proofs.Ytcgjppacnhmjlaa.Sim
end

section
set_option linter.unusedVariables false
set_option linter.unusedSimpArgs false
set_option linter.unusedSectionVars false
/-! Goroutine 0's own steps in company. -/
namespace Go.Proofs.Ytcgjppacnhmjlaa.Sim
open Go Go.Conc Go.ConcN
open Go.ConcR (KK wgBlock WgAt stA smA rd wr mk Payload DC0)
set_option linter.unusedVariables false
set_option linter.unusedSectionVars false
variable [Payload]

/-- What goroutine 0 may list. -/
def EvZ (Wg : Nat) (S L : Nat → Prop) (e : Event) : Prop :=
  (∃ a, e.loc = .cell a ∧ L a.block ∧ (e.write = true → ¬ S a.block)) ∨ e.loc = .mark .noRoom ∨ (∃ f, e.loc = .mark (.extern f)) ∨ BkE Wg e ∨ ∃ a, a.block = Wg ∧ (e = mk (.read a) ∨ e = mk (.write a) ∨ e = mk (.acquire a))
/-- What it may do to the world. -/
structure Zs (Wg : Nat) (S L : Nat → Prop) (w w' : World) : Prop where
  size : w.heap.size ≤ w'.heap.size
  keep : ∀ b, b < w.heap.size → (¬ L b ∨ S b) → b ≠ Wg → w'.heap[b]? = w.heap[b]?

section
variable {C : FC} {S L : Nat → Prop} {J : Nat} {gh : Nat → Gh} {gs : Array Goroutine} {w w' : World} {t : Trace} {p vb d0 : Nat} {Mo : (Nat → Gh) → Int → Int → Prop}

theorem inv_zero (hS : C.Stable) (I : Inv C L J gh gs w t) (hro : ∀ x b, (gh x).ro b → S b) {a a' : Goroutine} {es : Array Event} (h0 : gs[0]? = some a) (hz : Zs C.Wg S L w w') (hlive : WgLive C.ty C.Wg w') (hev : ∀ e ∈ es, EvZ C.Wg S (grow L w w') e) :
    Inv C (grow L w w') J gh ((gs.map (woken C.P a a' w')).setIfInBounds 0 a') w' (t ++ MemOp.ofEvents 0 a.frame.fn a.frame.place es) := by
  have hlt : 0 < gs.size := by rw [I.sz]; omega
  have hsz := hz.size
  have nTE := I.wf.TE
  have hTlt : C.T < w.heap.size := by obtain ⟨c, h1, _⟩ := I.wf.T; exact (Array.getElem?_eq_some_iff.1 h1).1
  have hElt : C.E < w.heap.size := by obtain ⟨c, e, f, h1, _⟩ := I.wf.E; exact (Array.getElem?_eq_some_iff.1 h1).1
  have hWlt : C.Wg < w.heap.size := I.hOl _ I.hO.1
  have eT : w'.heap[C.T]? = w.heap[C.T]? := hz.keep _ hTlt (.inl fun h => (I.hL _ h).2.1 rfl) nTE.2.1
  have eE : w'.heap[C.E]? = w.heap[C.E]? := hz.keep _ hElt (.inl fun h => (I.hL _ h).2.2.1 rfl) nTE.2.2
  have eM : ∀ x b, (gh x).M b → w'.heap[b]? = w.heap[b]? := fun x b hb => hz.keep b (I.hM x b hb).1 (.inl (I.hM x b hb).2.1) fun e => (I.hM x b hb).2.2.2.2 (e ▸ I.hO.1)
  have eR : ∀ x b, (gh x).ro b → w'.heap[b]? = w.heap[b]? := fun x b hb => hz.keep b (I.hL b (I.hro x b hb)).1 (.inr (hro x b hb)) fun e => (I.hL b (I.hro x b hb)).2.2.2 (e ▸ I.hO.1)
  have gL : ∀ b, grow L w w' b → b < w'.heap.size ∧ b ≠ C.T ∧ b ≠ C.E ∧ ¬ C.O b := by
    intro b hb
    rcases hb with hb | ⟨h1, h2⟩
    · obtain ⟨a1, a2⟩ := I.hL b hb; exact ⟨by omega, a2⟩
    · exact ⟨h2, by omega, by omega, fun hO => by have := I.hOl b hO; omega⟩
  refine ⟨by simp [I.sz], I.mJ, fun x x1 xJ => ?_, fun x x1 xJ => ?_, fun x x1 xJ => ?_, I.nx, ?_, I.olds.app fun op hop => .inl (ops_g hop), fun op hop => ?_, fun op hop a => ?_, fun x b hb => ?_, I.hMM, fun x b hb => .inl (I.hro x b hb), gL, I.hO, fun b hb => by have := I.hOl b hb; omega, ?_⟩
  · obtain ⟨g, h1, h2⟩ := I.hw x x1 xJ
    refine ⟨g, by rw [Array.getElem?_setIfInBounds_ne (by omega), Array.getElem?_map, h1]; simp [woken_oth h2], ?_⟩
    refine othW_rely h2 ⟨hsz, fun b hb => .of_eq (eR x b hb), fun b hb => eM x b hb, .of_eq eT, .of_eq eE⟩ ⟨fun b hb => by omega, fun _ => hlive, fun ⟨c, h3, h4⟩ => ⟨c, eT.trans h3, h4⟩, ?_⟩
    simp only [World.cell?]; rw [eT]
  · obtain ⟨h1, h2⟩ := I.hr x x1 xJ
    refine ⟨h1, fun h3 h4 => ⟨hS x _ _ w w' (fun b hb => eM x b hb) (by simp only [World.cell?]; rw [eE]) (h2 h3 h4).1, fun h6 => ?_⟩⟩
    have := (h2 h3 h4).2 h6
    unfold Has at this ⊢
    rw [← this]
    simp only [World.cell?]; rw [eT]
  · obtain ⟨h1, h2⟩ := I.ht x x1 xJ
    refine ⟨by rw [Deaf_other t (g' := 0) (by omega) _ (fun op hop => ops_g hop)]; exact h1, fun h3 h4 => ?_⟩
    obtain ⟨r, hs⟩ := h2 h3 h4
    exact ⟨r, hs.other fun op hop => .inl (by rw [ops_g hop]; omega)⟩
  · refine CT.app0 I.apart I.ct fun op hop => ?_
    obtain ⟨e, he, rfl⟩ := ops_mem hop
    refine ⟨rfl, fun y hy => ?_⟩
    rcases hev e he with ⟨a, ha, hL, hw⟩ | h | ⟨f, h⟩ | h | ⟨a, ha, h | h | h⟩
    · obtain ⟨loc, wr, sy⟩ := e
      dsimp only at ha hw
      subst ha
      simp only [MemAct.ofEvent, MemAct.touch?, Option.some.injEq] at hy
      subst hy
      obtain ⟨g1, g2, g3, g4⟩ := gL _ hL
      refine .inr ⟨?_, fun k k1 kJ ho => ?_, fun hwr k k1 kJ hr => ?_⟩
      · rintro (⟨a', e, hO⟩ | h)
        · cases e; exact g4 hO
        · cases h
      · rcases ho with ⟨a', e, h | ⟨_, h | h, _⟩⟩ | ⟨r, e, _⟩
        · cases e
          rcases hL with hL | ⟨h1, _⟩
          · exact (I.hM k _ h).2.1 hL
          · have := (I.hM k _ h).1; omega
        · cases e; exact g2 h
        · cases e; exact g3 h
        · cases e
      · rcases hr with ⟨a', e, h⟩ | ⟨r, e, _⟩
        · cases e; exact hw hwr (hro k _ h)
        · cases e
    · obtain ⟨loc, wr, sy⟩ := e; dsimp only at h; subst h; cases hy
    · obtain ⟨loc, wr, sy⟩ := e; dsimp only at h; subst h; cases hy
    · obtain ⟨⟨a, ha, hb⟩, hk⟩ := h.touch hy
      exact .inl ⟨.inl ⟨a, ha, hb ▸ I.hO.1⟩, by rw [hk]; decide⟩
    · subst h
      simp only [mk, MemAct.ofEvent, MemAct.touch?, Option.some.injEq] at hy
      subst hy
      exact .inl ⟨.inl ⟨a, rfl, ha ▸ I.hO.1⟩, by simp⟩
    · subst h
      simp only [mk, MemAct.ofEvent, MemAct.touch?, Option.some.injEq] at hy
      subst hy
      exact .inl ⟨.inl ⟨a, rfl, ha ▸ I.hO.1⟩, by simp⟩
    · subst h; cases hy
  · rcases Array.mem_append.1 hop with h | h
    · exact MemAct.low_mono hsz (I.low op h)
    · obtain ⟨e, he, rfl⟩ := ops_mem h
      rcases hev e he with ⟨a, ha, hL, hw⟩ | h | ⟨f, h⟩ | h | ⟨a, ha, h | h | h⟩
      · obtain ⟨loc, wr, sy⟩ := e
        dsimp only at ha
        subst ha
        exact (gL _ hL).1
      · obtain ⟨loc, wr, sy⟩ := e; dsimp only at h; subst h; trivial
      · obtain ⟨loc, wr, sy⟩ := e; dsimp only at h; subst h; trivial
      · exact h.low (by omega)
      · subst h; show a.block < w'.heap.size; omega
      · subst h; show a.block < w'.heap.size; omega
      · subst h; show a.block < w'.heap.size; omega
  · rcases Array.mem_append.1 hop with h | h
    · exact I.nrel op h a
    · obtain ⟨e, he, rfl⟩ := ops_mem h
      refine ofEvent_rel fun a' x => ?_
      rcases hev e he with ⟨a, ha, hL, hw⟩ | h | ⟨f, h⟩ | h | ⟨a, ha, h | h | h⟩
      · rw [ha] at x; cases x
      · rw [h] at x; cases x
      · rw [h] at x; cases x
      · exact h.rel a' x
      · subst h; cases x
      · subst h; cases x
      · subst h; cases x
  · obtain ⟨h1, h2, h3⟩ := I.hM x b hb
    refine ⟨by omega, fun h => ?_, h3⟩
    rcases h with h | ⟨h, _⟩
    · exact h2 h
    · omega
  · obtain ⟨c, h1, h2⟩ := I.wf.T
    obtain ⟨d, e, f, h3, h4⟩ := I.wf.E
    exact ⟨⟨c, eT.trans h1, h2⟩, ⟨d, e, f, eE.trans h3, h4⟩, nTE, hlive⟩

/-- What comes of goroutine 0's own step. -/
theorem sit_zero (hS : C.Stable) (h : Sit C S L J Mo d0 gh gs w t) {Mo' : (Nat → Gh) → Int → Int → Prop} {a a' : Goroutine} {es : Array Event} (h0 : gs[0]? = some a) (hz : Zs C.Wg S L w w') (hev : ∀ e ∈ es, EvZ C.Wg S (grow L w w') e) {st sm : Int} (hw : WgAt C.ty C.Wg w' st sm) (hm : Mo' gh st sm) :
    Sit C S (grow L w w') J Mo' (deafBehind d0 es) gh ((gs.map (woken C.P a a' w')).setIfInBounds 0 a') w' (t ++ MemOp.ofEvents 0 a.frame.fn a.frame.place es) :=
  ⟨inv_zero hS h.inv h.ro h0 hz ⟨_, _, hw⟩ hev, ⟨_, _, hw, hm⟩, by rw [Deaf_own, h.deaf], h.ro⟩

theorem Zs.refl (Wg : Nat) (S L : Nat → Prop) (w : World) : Zs Wg S L w w := ⟨Nat.le_refl _, fun _ _ _ _ => rfl⟩
theorem Zs.set {Wg : Nat} {S L : Nat → Prop} {w : World} {a : Addr} (v : Value) (h : a.block = Wg) : Zs Wg S L w (w.setCell a v) := by
  have := aside_setCell w a v
  exact ⟨by rw [this.size]; exact Nat.le_refl _, fun b _ _ hb => this.block b (by rw [h]; exact hb)⟩
theorem grow_set (L : Nat → Prop) (w : World) (a : Addr) (v : Value) : grow L w (w.setCell a v) = L := by
  have := (aside_setCell w a v).size
  funext b
  exact propext ⟨fun h => h.elim id fun x => by omega, .inl⟩

variable {Post : Value → World → Prop} {fr : Frame} {cs : List Frame} {w0 : World}

theorem OFin.base (h : OFin C Post S L J Mo d0 fr cs w0) (hr : Rl S L w0 w) : OFin C Post S L J Mo d0 fr cs w := fun w1 gs sl t gh h1 h2 h3 => h w1 gs sl t gh (hr.trans h1) h2 h3

/-- A step that leaves the group alone. -/
theorem OFin.step (hS : C.Stable) (hk : Kp C J Mo) (h : ∀ w, Rl S L w0 w → C.Wf w → (∀ b, L b → b < w.heap.size ∧ ¬ C.O b) → ∃ fr' cs' w' es, stepG C.P true (gor fr cs) w = .go (gor fr' cs') w' es ∧ Zs C.Wg S L w w' ∧ w'.heap[C.Wg]? = w.heap[C.Wg]? ∧ (∀ e ∈ es, EvZ C.Wg S (grow L w w') e) ∧ OFin C Post S (grow L w w') J Mo (deafBehind d0 es) fr' cs' w') : OFin C Post S L J Mo d0 fr cs w0 := by
  refine .of_main hS hk fun w gs sl t gh hr h0 hs => ?_
  obtain ⟨fr', cs', w', es, h1, h2, h3, h4, h5⟩ := h w hr hs.inv.wf fun b hb => ⟨(hs.inv.hL b hb).1, (hs.inv.hL b hb).2.2.2⟩
  obtain ⟨st, sm, m1, m2⟩ := hs.mo
  have hlt : 0 < gs.size := (Array.getElem?_eq_some_iff.1 h0).1
  refine ⟨_, _, runT_crowd_go (P := C.P) (sl := sl) (i := 0) h0 (show stepG C.P (0 == 0) _ _ = _ from h1), ?_⟩
  exact h5 w' _ sl _ gh (.refl _ _ _) (by simp [hlt]) (sit_zero hS hs h0 h2 h4 (m1.of_block h3) m2)

theorem OFin.ctl {fr' : Frame} {cs' : List Frame} (hS : C.Stable) (hk : Kp C J Mo) (h : ∀ w, stepG C.P true (gor fr cs) w = .go (gor fr' cs') w #[]) (hn : OFin C Post S L J Mo d0 fr' cs' w0) : OFin C Post S L J Mo d0 fr cs w0 :=
  .step hS hk fun w hr _ _ => ⟨fr', cs', w, #[], h w, .refl .., rfl, fun e he => by simp at he, by rw [← grow_idle L w]; exact hn.base hr⟩
/-- It looks at the world, and lists what it does. -/
theorem OFin.look {fr' : Frame} {cs' : List Frame} {d1 : Nat} (hS : C.Stable) (hk : Kp C J Mo) (h : ∀ w, Rl S L w0 w → C.Wf w → ∃ es, stepG C.P true (gor fr cs) w = .go (gor fr' cs') w es ∧ (∀ e ∈ es, EvZ C.Wg S L e) ∧ deafBehind d0 es = d1) (hn : OFin C Post S L J Mo d1 fr' cs' w0) : OFin C Post S L J Mo d0 fr cs w0 :=
  .step hS hk fun w hr hf _ => by
    obtain ⟨es, h1, h2, h3⟩ := h w hr hf
    exact ⟨fr', cs', w, es, h1, .refl .., rfl, by rw [← grow_idle L w]; exact h2, by rw [← grow_idle L w, h3]; exact hn.base hr⟩

theorem bk_two (Wg : Nat) : ∀ e ∈ #[rd (stA Wg), wr (stA Wg)], BkE Wg e := by
  intro e he
  simp at he
  rcases he with rfl | rfl
  · exact .inr (.inr ⟨_, _, rfl, rfl⟩)
  · exact .inr (.inr ⟨_, _, rfl, rfl⟩)
theorem bk_one (Wg : Nat) : ∀ e ∈ #[rd (stA Wg)], BkE Wg e := by
  intro e he
  simp at he
  subst he
  exact .inr (.inr ⟨_, _, rfl, rfl⟩)

/-- The atomic add of +1. -/
theorem OFin.add (hS : C.Stable) (hn : J + 1 - C.m < 2147483600)
    (h : ∀ v : Nat, v < 2147483600 → ∃ fr' cs', (∀ w, Rl S L w0 w → WgAt C.ty C.Wg w ((v : Int) * KK) 0 → stepG C.P true (gor fr cs) w = .go (gor fr' cs') (w.setCell (stA C.Wg) (.int .u64 (((v : Int) + 1) * KK))) #[rd (stA C.Wg), wr (stA C.Wg)]) ∧ OFin C Post S L J (MoO C J 1 vb) d0 fr' cs' w0) : OFin C Post S L J (MoO C J 0 vb) d0 fr cs w0 := by
  refine .of_main hS (kp_open hS hn (by omega)) fun w gs sl t gh hr h0 hs => ?_
  obtain ⟨st, sm, m1, m2, rfl, rfl, m5⟩ := hs.mo
  have hv := Vg_le (m := C.m) (J := J) (gh := gh)
  obtain ⟨fr', cs', h1, h2⟩ := h (Vg C.m J gh) (by omega)
  have m1' : WgAt C.ty C.Wg w (((Vg C.m J gh : Nat) : Int) * KK) 0 := by simpa using m1
  have hlt : 0 < gs.size := (Array.getElem?_eq_some_iff.1 h0).1
  refine ⟨_, _, runT_crowd_go (P := C.P) (sl := sl) (i := 0) h0 (show stepG C.P (0 == 0) _ _ = _ from h1 w hr m1'), ?_⟩
  have hLW : ∀ b, L b → b ≠ C.Wg := fun b hb e => (hs.inv.hL b hb).2.2.2 (e ▸ hs.inv.hO.1)
  have := sit_zero (Mo' := MoO C J 1 vb) hS hs h0 (a' := gor fr' cs') (Zs.set (.int .u64 ((((Vg C.m J gh : Nat) : Int) + 1) * KK)) rfl) (es := #[rd (stA C.Wg), wr (stA C.Wg)]) (fun e he => .inr (.inr (.inr (.inl (bk_two _ e he))))) (m1'.setSt _) ⟨m2, by simp, rfl, m5⟩
  rw [grow_set] at this
  exact h2 _ _ sl _ gh (hr.trans (rl_set hLW _ rfl _)) (by simp [hlt]) this

/-- The load. -/
theorem OFin.load (hS : C.Stable) (hn : J + 1 - C.m < 2147483600)
    (h : ∀ v : Nat, v ≤ vb → v < 2147483600 → ∃ fr' cs', (∀ w, Rl S L w0 w → WgAt C.ty C.Wg w ((v : Int) * KK) 0 → stepG C.P true (gor fr cs) w = .go (gor fr' cs') w #[rd (stA C.Wg)]) ∧ OFin C Post S L J (MoO C J 0 v) d0 fr' cs' w0) : OFin C Post S L J (MoO C J 0 vb) d0 fr cs w0 := by
  refine .of_main hS (kp_open hS hn (by omega)) fun w gs sl t gh hr h0 hs => ?_
  obtain ⟨st, sm, m1, m2, rfl, rfl, m5⟩ := hs.mo
  have hv := Vg_le (m := C.m) (J := J) (gh := gh)
  obtain ⟨fr', cs', h1, h2⟩ := h (Vg C.m J gh) m5 (by omega)
  have m1' : WgAt C.ty C.Wg w (((Vg C.m J gh : Nat) : Int) * KK) 0 := by simpa using m1
  have hlt : 0 < gs.size := (Array.getElem?_eq_some_iff.1 h0).1
  refine ⟨_, _, runT_crowd_go (P := C.P) (sl := sl) (i := 0) h0 (show stepG C.P (0 == 0) _ _ = _ from h1 w hr m1'), ?_⟩
  have := sit_zero (Mo' := MoO C J 0 (Vg C.m J gh)) hS hs h0 (a' := gor fr' cs') (Zs.refl C.Wg S L w) (es := #[rd (stA C.Wg)]) (fun e he => .inr (.inr (.inr (.inl (bk_one _ e he))))) m1 ⟨m2, rfl, rfl, Nat.le_refl _⟩
  rw [← grow_idle] at this
  exact h2 _ _ sl _ gh hr (by simp [hlt]) this

/-- The compare-and-swap, vs having been seen. -/
theorem OFin.cas {vs : Nat} {fr1 fr2 : Frame} {cs1 cs2 : List Frame} (hS : C.Stable) (hn : J + 1 - C.m < 2147483600) (hvs : 1 ≤ vs)
    (h1 : ∀ w, Rl S L w0 w → WgAt C.ty C.Wg w ((vs : Int) * KK) 0 → stepG C.P true (gor fr cs) w = .go (gor fr1 cs1) (w.setCell (stA C.Wg) (.int .u64 ((vs : Int) * KK + 1))) #[rd (stA C.Wg), wr (stA C.Wg)]) (hn1 : OFin C Post S L J (MoR C J) d0 fr1 cs1 w0)
    (h2 : ∀ w (v : Nat), Rl S L w0 w → v < vs → WgAt C.ty C.Wg w ((v : Int) * KK) 0 → stepG C.P true (gor fr cs) w = .go (gor fr2 cs2) w #[rd (stA C.Wg)]) (hn2 : OFin C Post S L J (MoO C J 0 (vs - 1)) d0 fr2 cs2 w0) : OFin C Post S L J (MoO C J 0 vs) d0 fr cs w0 := by
  refine .of_main hS (kp_open hS hn (by omega)) fun w gs sl t gh hr h0 hs => ?_
  obtain ⟨st, sm, m1, m2, rfl, rfl, m5⟩ := hs.mo
  have m1' : WgAt C.ty C.Wg w (((Vg C.m J gh : Nat) : Int) * KK) 0 := by simpa using m1
  have hlt : 0 < gs.size := (Array.getElem?_eq_some_iff.1 h0).1
  have hLW : ∀ b, L b → b ≠ C.Wg := fun b hb e => (hs.inv.hL b hb).2.2.2 (e ▸ hs.inv.hO.1)
  by_cases hv : Vg C.m J gh = vs
  · refine ⟨_, _, runT_crowd_go (P := C.P) (sl := sl) (i := 0) h0 (show stepG C.P (0 == 0) _ _ = _ from h1 w hr (hv ▸ m1')), ?_⟩
    have := sit_zero (Mo' := MoR C J) hS hs h0 (a' := gor fr1 cs1) (Zs.set (.int .u64 ((vs : Int) * KK + 1)) rfl) (es := #[rd (stA C.Wg), wr (stA C.Wg)]) (fun e he => .inr (.inr (.inr (.inl (bk_two _ e he))))) (m1'.setSt _) (.inl ⟨m2, by omega, by rw [hv], rfl⟩)
    rw [grow_set] at this
    exact hn1 _ _ sl _ gh (hr.trans (rl_set hLW _ rfl _)) (by simp [hlt]) this
  · refine ⟨_, _, runT_crowd_go (P := C.P) (sl := sl) (i := 0) h0 (show stepG C.P (0 == 0) _ _ = _ from h2 w _ hr (by omega) m1'), ?_⟩
    have := sit_zero (Mo' := MoO C J 0 (vs - 1)) hS hs h0 (a' := gor fr2 cs2) (Zs.refl C.Wg S L w) (es := #[rd (stA C.Wg)]) (fun e he => .inr (.inr (.inr (.inl (bk_one _ e he))))) m1 ⟨m2, rfl, rfl, by omega⟩
    rw [← grow_idle] at this
    exact hn2 _ _ sl _ gh hr (by simp [hlt]) this
end

end Go.Proofs.Ytcgjppacnhmjlaa.Sim
end
