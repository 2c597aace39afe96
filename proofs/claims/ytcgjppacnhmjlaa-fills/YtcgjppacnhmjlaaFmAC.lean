/- Own texts: SimG, SimH. -/
import Derived.Test.YtcgjppacnhmjlaaFmAB

section
set_option linter.unusedVariables false
set_option linter.unusedSimpArgs false
set_option linter.unusedSectionVars false
/-! Operations: equality, operators, conversions. -/
namespace Go.Proofs.Ytcgjppacnhmjlaa.Sim
open Go
set_option linter.unusedVariables false

/-- Types whose values are compared without a question that hangs on more than the values. -/
def eqOk (P : Program) (fz : Bool) : Nat → TypeId → Bool
  | 0, _ => false
  | d + 1, t => match P.underlying t with
    | some .bool | some (.int _) | some .string | some (.slice _) | some (.func ..) => true
    | some (.pointer _) | some .unsafePointer => fz
    | some (.struct fs) => fs.all fun f => eqOk P fz d f.type
    | _ => false

section
variable {X : Ctx} {R : BR} {α β γ δ : Type}

theorem r_forIn {σ : Type} {ι : Type} (body body' : ι → σ → Sem (ForInStep σ)) : ∀ (l : List ι) {R : BR} (s : σ), (∀ i ∈ l, ∀ R', BR.Ext X.P.globals.size R R' → ∀ s, SemR X EqR R' (body i s) (body' i s)) → SemR X EqR R (forIn l s body) (forIn l s body')
  | [], R, s, _ => .pure rfl
  | i :: l, R, s, h => by
    rw [List.forIn_cons, List.forIn_cons]
    refine SemR.bindE (h i (by simp) R (.refl _ _) s) fun R1 h1 x => ?_
    cases x with
    | done s => exact .pure rfl
    | yield s => exact r_forIn body body' l s fun j hj R' h' s => h j (by simp [hj]) R' (h1.trans h') s

theorem r_equalIn : ∀ (k n : Nat) (t : TypeId) {R : BR} {x x' y y' : Value}, eqOk X.P X.fz k t = true → k ≤ n → BR.Fine X.P.globals.size R → VR X.G R x x' → VR X.G R y y' → SemR X EqR R (Op.equalIn n t x y) (Op.equalIn n t x' y')
  | 0, _, _, _, _, _, _, _, h, _, _, _, _ => by simp [eqOk] at h
  | k + 1, 0, _, _, _, _, _, _, _, h, _, _, _ => by omega
  | k + 1, n + 1, t, R, x, x', y, y', h, hn, hf, hx, hy => by
    unfold Op.equalIn
    refine SemR.bind (r_underlyingI t) fun R1 h1 d d' hd => ?_
    obtain ⟨rfl, hd⟩ := hd
    unfold eqOk at h
    rw [hd] at h
    have hx := hx.mono h1.sub
    have hy := hy.mono h1.sub
    have hf := h1.fine hf
    cases d with
    | bool => cases hx <;> cases hy <;> first | exact .pure rfl | exact r_stuck _ _
    | string => cases hx <;> cases hy <;> first | exact .pure rfl | exact r_stuck _ _
    | slice e => cases hx <;> cases hy <;> first | exact .pure rfl | exact r_stuck _ _
    | func a b c => cases hx <;> cases hy <;> first | exact .pure rfl | exact r_stuck _ _
    | pointer e =>
      cases hx with
      | ptr ha =>
        cases hy with
        | ptr hb =>
          refine SemR.bindE (r_sizeOf e) fun R2 h2 m => ?_
          split
          · exact r_sameAddr (by simpa using h) (h2.fine hf) (ha.mono h2.sub) (hb.mono h2.sub)
          · rw [(AR.eq_iff hf ha hb).2]
            split
            · exact .pure rfl
            · exact .choose fun _ => .pure rfl
        | pnil => exact .pure rfl
        | _ => exact r_stuck _ _
      | _ => cases hy <;> first | exact .pure rfl | exact r_stuck _ _
    | unsafePointer =>
      cases hx with
      | ptr ha =>
        cases hy with
        | ptr hb => exact r_sameAddr (by simpa using h) hf ha hb
        | pnil => exact .pure rfl
        | _ => exact r_stuck _ _
      | _ => cases hy <;> first | exact .pure rfl | exact r_stuck _ _
    | int ik =>
      cases hx with
      | int k1 n1 =>
        cases hy with
        | int k2 n2 =>
          dsimp only
          split
          · exact .pure rfl
          · exact r_stuck _ _
        | ptr hb =>
          by_cases e : n1 = 0
          · subst e; exact .pure rfl
          · dsimp only
            split <;> first | exact .pure rfl | exact .dead (.unsupported _ (by simp)) | exact r_stuck _ _ | (exfalso; simp_all)
        | pnil => exact .dead (.unsupported _ (by simp))
        | _ => exact r_stuck _ _
      | ptr ha =>
        cases hy with
        | int k2 n2 =>
          by_cases e : n2 = 0
          · subst e; exact .pure rfl
          · dsimp only
            split <;> first | exact .pure rfl | exact .dead (.unsupported _ (by simp)) | exact r_stuck _ _ | (exfalso; simp_all)
        | ptr hb =>
          dsimp only
          refine SemR.bind (r_behind ha) fun R2 h2 p q hpq => ?_
          refine SemR.bind (r_behind (hb.mono h2.sub)) fun R3 h3 p2 q2 hpq2 => ?_
          refine r_program ?_
          obtain ⟨p1, pb⟩ := p; obtain ⟨q1, qb⟩ := q; obtain ⟨p3, pb3⟩ := p2; obtain ⟨q3, qb3⟩ := q2
          obtain ⟨h4, h5⟩ := hpq
          obtain ⟨h7, h8⟩ := hpq2
          dsimp only at h4 h5 h7 h8 ⊢
          have hf3 := h3.fine (h2.fine hf)
          have h4 := h4.mono h3.sub
          have e12 := AR.eq_iff hf3 h4 h7
          have el : decide (p1.block < X.P.globals.size) = decide (q1.block < X.P.globals.size) := by
            have := hf3.low _ _ h4.1
            simp [this]
          rw [e12.1, el, e12.2]
          split
          · refine SemR.bindE (r_byteOf h4) fun R4 h10 u => ?_
            exact SemR.bindE (r_byteOf (h7.mono h10.sub)) fun R5 _ v => .pure rfl
          · refine (r_typeInfo t).bind fun R4 h10 ti ti' hti => ?_
            obtain ⟨rfl, _⟩ := hti
            split
            · split
              · exact .pure rfl
              · exact .dead (.unsupported _ (by simp))
            · exact .dead (.unsupported _ (by simp))
        | _ =>
          dsimp only
          exact .dead (.unsupported _ (by simp))
      | pnil => cases hy <;> first | exact .dead (.unsupported _ (by simp)) | exact r_stuck _ _
      | _ => cases hy <;> first | exact .dead (.unsupported _ (by simp)) | exact r_stuck _ _
    | struct fs =>
      cases hx with
      | @agg xs xs' h3 h4 =>
        cases hy with
        | @agg ys ys' h5 h6 =>
          dsimp only
          have hxs : AVR X.G R1 xs xs' := ⟨h3, h4⟩
          have hys : AVR X.G R1 ys ys' := ⟨h5, h6⟩
          refine r_program ?_
          refine r_ite (.bind (.unsupported _ (by simp)) _) fun _ => ?_
          refine SemR.bindE ?_ fun R2 h2 o => ?_
          · rw [← Array.forIn_toList, ← Array.forIn_toList]
            refine r_forIn _ _ _ _ fun f hm R2 h2 s => ?_
            split
            · refine SemR.bind (r_part (hxs.mono h2.sub) f.type f.offset) fun R3 h3 u u' hu => ?_
              refine SemR.bind (r_part ((hys.mono h2.sub).mono h3.sub) f.type f.offset) fun R4 h4 v v' hv => ?_
              have ok : eqOk X.P X.fz k f.type = true := (Array.all_eq_true_iff_forall_mem.1 h) f (by simpa using hm)
              refine SemR.bindE (r_equalIn k n f.type ok (by omega) (h4.fine (h3.fine (h2.fine hf))) (hu.mono h4.sub) hv) fun R5 h5 b => ?_
              cases b <;> exact .pure rfl
            · exact .pure rfl
          · split <;> exact .pure rfl
        | _ => exact r_stuck _ _
      | _ => cases hy <;> exact r_stuck _ _
    | _ => cases h
end

end Go.Proofs.Ytcgjppacnhmjlaa.Sim
end

section
set_option linter.unusedVariables false
set_option linter.unusedSimpArgs false
set_option linter.unusedSectionVars false
/-! Operations: operators, conversions, calls; every operation. -/
namespace Go.Proofs.Ytcgjppacnhmjlaa.Sim
open Go
set_option linter.unusedVariables false

section
variable {X : Ctx} {R : BR} {α β γ δ : Type}

def PtrR (R : BR) (u u' : Value) : Prop := ∃ a a', u = .pointer (some a) ∧ u' = .pointer (some a') ∧ AR R a a'
theorem r_unsafeAdd {v v' y y' : Value} (hv : VR X.G R v v') (hy : VR X.G R y y') (t : TypeId) : SemR X PtrR R (Builtin.unsafeAdd_ #[] t #[v, y]) (Builtin.unsafeAdd_ #[] t #[v', y']) := by
  unfold Builtin.unsafeAdd_
  cases hv with
  | pnil =>
    dsimp only
    refine SemR.bindE (r_asInt hy) fun R1 h1 n => ?_
    split
    · exact .dead (.unsupported _ (by simp))
    · exact .dead (.ite (.bind (.unsupported _ (by simp)) _) (.unsupported _ (by simp)))
  | ptr ha =>
    dsimp only
    refine SemR.bindE (r_asInt hy) fun R1 h1 n => ?_
    have ha := ha.mono h1.sub
    split
    · refine (r_viewAt ha.1).bind fun R2 h2 x x' e => ?_
      rcases e with ⟨rfl, rfl⟩ | ⟨x, x', u, _, rfl, rfl, hx⟩
      · exact .pure ⟨_, _, rfl, rfl, ha.mono h2.sub⟩
      · first | exact .dead (.unsupported _ (by simp)) | exact .pure ⟨_, _, rfl, rfl, hx⟩
    · refine r_ite (.bind (.unsupported _ (by simp)) _) fun _ => ?_
      refine r_shapeE ha.1 fun s s' hs => ?_
      cases s with
      | none => exact .dead (.unsupported _ (by simp))
      | some s =>
        obtain ⟨e, c⟩ := s
        have hm : ∃ c', s' = some (e, c') ∧ c ≤ c' := by
          rcases hs with rfl | ⟨_, _, e1, n1, n2, h, rfl, hle⟩
          · exact ⟨c, rfl, Nat.le_refl _⟩
          · cases h; exact ⟨_, rfl, hle⟩
        obtain ⟨c', rfl, hle⟩ := hm
        refine r_program ?_
        rw [ha.2.1]
        cases hx : cellAtBytes X.P X.P.depth e (c / X.P.cellsOf e) _ n with
        | none => exact .dead (.unsupported _ (by simp))
        | some off =>
          rw [cellAtBytes_mono (Nat.div_le_div_right hle) hx]
          exact .pure ⟨_, _, rfl, rfl, ha.1, rfl, ha.2.2⟩
  | _ => exact r_stuck _ _
theorem r_movedNumber {v v' y y' : Value} (hv : VR X.G R v v') (hy : VR X.G R y y') (t : TypeId) : SemR X (VX X) R (movedNumber t v y) (movedNumber t v' y') := by
  unfold movedNumber
  refine SemR.bindE (r_underlying t) fun R1 h1 d => ?_
  have hv := hv.mono h1.sub
  have hy := hy.mono h1.sub
  refine r_ite (.bind (.unsupported _ (by simp)) _) fun _ => ?_
  cases hv with
  | ptr ha =>
    dsimp only
    refine (r_behind ha).bind fun R2 h2 p q hpq => ?_
    obtain ⟨p1, l⟩ := p
    obtain ⟨q1, l'⟩ := q
    obtain ⟨h3, rfl⟩ := hpq
    dsimp only
    refine (r_unsafeAdd (.ptr h3) (hy.mono h2.sub) t).bind fun R3 h4 u u' hu => ?_
    obtain ⟨b, b', rfl, rfl, hb⟩ := hu
    exact .newN hb fun r r' _ _ _ _ => .pure (.ptr ⟨.inr ⟨rfl, rfl⟩, rfl, rfl⟩)
  | pnil => exact (r_unsafeAdd .pnil hy t).imp fun R u u' hu => by obtain ⟨b, b', rfl, rfl, hb⟩ := hu; exact .ptr hb
  | _ => exact .dead (by unfold Builtin.unsafeAdd_; exact .stuck _)
theorem r_movedPointer {v v' y y' : Value} (hv : VR X.G R v v') (hy : VR X.G R y y') (t : TypeId) : SemR X (VX X) R (movedPointer t v y) (movedPointer t v' y') := by
  unfold movedPointer
  cases hv with
  | ptr ha =>
    dsimp only
    refine (r_numberAt ha.1).bind fun R1 h1 x x' e => ?_
    rcases e with ⟨rfl, rfl⟩ | ⟨u, u', l, rfl, rfl, hu⟩
    · exact (r_unsafeAdd (.ptr (ha.mono h1.sub)) (hy.mono h1.sub) t).imp fun R u u' hu => by obtain ⟨b, b', rfl, rfl, hb⟩ := hu; exact .ptr hb
    · exact .dead (.unsupported _ (by simp))
  | pnil => exact (r_unsafeAdd .pnil hy t).imp fun R u u' hu => by obtain ⟨b, b', rfl, rfl, hb⟩ := hu; exact .ptr hb
  | _ => exact .dead (by unfold Builtin.unsafeAdd_; exact .stuck _)
theorem r_twoPlaces (hf : BR.Fine X.P.globals.size R) {a a' b b' : Addr} (ha : AR R a a') (hb : AR R b b') : SemR X EqR R (Op.twoPlaces a b) (Op.twoPlaces a' b') := by
  unfold Op.twoPlaces
  refine r_program ?_
  have e1 := (AR.eq_iff hf ha hb).1
  have e2 : decide (a.block ≥ X.P.globals.size) = decide (a'.block ≥ X.P.globals.size) := by
    have := hf.low _ _ ha.1
    by_cases h : a.block < X.P.globals.size
    · have h' := this.1 h; simp [Nat.not_le.2 h, Nat.not_le.2 h']
    · have h' : ¬ a'.block < X.P.globals.size := fun x => h (this.2 x)
      simp [Nat.not_lt.1 h, Nat.not_lt.1 h']
  have e3 : (a.block != b.block) = (a'.block != b'.block) := by simp only [bne, e1]
  rw [e3, e2]
  refine r_ite (.bind (.unsupported _ (by simp)) _) fun _ => ?_
  exact SemR.bindE (r_byteOf ha) fun R1 h1 x => SemR.bindE (r_byteOf (hb.mono h1.sub)) fun R2 _ y => .pure rfl
theorem r_addrSub (hf : BR.Fine X.P.globals.size R) {a a' b b' : Addr} (ha : AR R a a') (hb : AR R b b') (k : IntKind) : SemR X (VX X) R (Op.addrSub k a b) (Op.addrSub k a' b') :=
  SemR.bindE (r_twoPlaces hf ha hb) fun _ _ _ => .pure (.int _ _)
theorem r_addrCmp (hf : BR.Fine X.P.globals.size R) {a a' b b' : Addr} (ha : AR R a a') (hb : AR R b b') (op : BinOp) : SemR X (VX X) R (Op.addrCmp op a b) (Op.addrCmp op a' b') :=
  SemR.bindE (r_twoPlaces hf ha hb) fun _ _ x => by
    cases op <;> first | exact .pure (.bool _) | exact .dead (.unsupported _ (by simp))

def okBin : BinOp → Bool
  | .add | .sub | .mul | .lss | .leq | .gtr | .geq | .shl | .shr => true
  | _ => false

theorem r_binOp (hf : BR.Fine X.P.globals.size R) {v v' y y' : Value} (hv : VR X.G R v v') (hy : VR X.G R y y') (op : BinOp) (t : TypeId) (ho : okBin op = true) : SemR X (VX X) R (binOp op t v y) (binOp op t v' y') := by
  cases hv with
  | int k n =>
    cases hy with
    | int k' n' =>
      cases op <;> simp only [okBin, Bool.false_eq_true] at ho <;> unfold binOp <;> dsimp only <;> first | exact r_shift _ _ _ _ _ | (split <;> first | exact r_stuck _ _ | exact r_intArith _ _ _ _ | exact r_intCmp _ _ _)
    | ptr hb => cases op <;> first | (simp only [okBin, Bool.false_eq_true] at ho; done) | exact r_movedNumber (.ptr hb) (.int k n) t | exact .dead (.unsupported _ (by simp))
    | pnil => cases op <;> first | (simp only [okBin, Bool.false_eq_true] at ho; done) | exact r_movedNumber .pnil (.int k n) t | exact .dead (.unsupported _ (by simp))
    | _ => cases op <;> first | (simp only [okBin, Bool.false_eq_true] at ho; done) | exact r_stuck _ _
  | string s =>
    cases hy with
    | string s' => cases op <;> first | (simp only [okBin, Bool.false_eq_true] at ho; done) | exact r_stringOp .add s s' | exact r_stringOp .lss s s' | exact r_stringOp .leq s s' | exact r_stringOp .gtr s s' | exact r_stringOp .geq s s' | exact r_stuck _ _
    | ptr hb => cases op <;> first | (simp only [okBin, Bool.false_eq_true] at ho; done) | exact .dead (.unsupported _ (by simp))
    | pnil => cases op <;> first | (simp only [okBin, Bool.false_eq_true] at ho; done) | exact .dead (.unsupported _ (by simp))
    | _ => cases op <;> first | (simp only [okBin, Bool.false_eq_true] at ho; done) | exact r_stuck _ _
  | ptr ha =>
    cases hy with
    | int k n =>
      cases op <;> first | (simp only [okBin, Bool.false_eq_true] at ho; done) | exact r_movedNumber (.ptr ha) (.int _ _) t | exact .dead (.unsupported _ (by simp)) | skip
      refine SemR.bindE (r_underlying t) fun R1 h1 d => ?_
      split
      · exact r_movedPointer (.ptr (ha.mono h1.sub)) (.int k n) t
      · exact r_movedNumber (.ptr (ha.mono h1.sub)) (.int k n) t
    | ptr hb =>
      have cmp : ∀ op, SemR X (VX X) R (do Op.addrCmp op (← behindNumber _).1 (← behindNumber _).1) (do Op.addrCmp op (← behindNumber _).1 (← behindNumber _).1) := fun op =>
        (r_behind ha).bind fun R1 h1 p q hp => (r_behind (hb.mono h1.sub)).bind fun R2 h2 p' q' hp' => r_addrCmp (h2.fine (h1.fine hf)) (hp.1.mono h2.sub) hp'.1 op
      cases op <;> first | (simp only [okBin, Bool.false_eq_true] at ho; done) | exact cmp _ | exact .dead (.unsupported _ (by simp)) | skip
      exact (r_behind ha).bind fun R1 h1 p q hp => (r_behind (hb.mono h1.sub)).bind fun R2 h2 p' q' hp' => r_addrSub (h2.fine (h1.fine hf)) (hp.1.mono h2.sub) hp'.1 _
    | _ => cases op <;> first | (simp only [okBin, Bool.false_eq_true] at ho; done) | exact .dead (.unsupported _ (by simp))
  | pnil =>
    cases hy with
    | int k n =>
      cases op <;> first | (simp only [okBin, Bool.false_eq_true] at ho; done) | exact r_movedNumber .pnil (.int _ _) t | exact .dead (.unsupported _ (by simp)) | skip
      refine SemR.bindE (r_underlying t) fun R1 h1 d => ?_
      split
      · exact r_movedPointer .pnil (.int k n) t
      · exact r_movedNumber .pnil (.int k n) t
    | _ => cases op <;> first | (simp only [okBin, Bool.false_eq_true] at ho; done) | exact .dead (.unsupported _ (by simp))
  | _ =>
    cases hy with
    | ptr hb => cases op <;> first | (simp only [okBin, Bool.false_eq_true] at ho; done) | exact .dead (.unsupported _ (by simp))
    | pnil => cases op <;> first | (simp only [okBin, Bool.false_eq_true] at ho; done) | exact .dead (.unsupported _ (by simp))
    | _ => cases op <;> first | (simp only [okBin, Bool.false_eq_true] at ho; done) | exact r_stuck _ _

/-! ### equality as an operator -/
theorem r_equalNil {v v' : Value} (hv : VR X.G R v v') (t : TypeId) : SemR X EqR R (Op.equal t v (.pointer none)) (Op.equal t v' (.pointer none)) ∧ SemR X EqR R (Op.equal t (.pointer none) v) (Op.equal t (.pointer none) v') := by
  constructor
  · refine SemR.bindE (r_underlying t) fun R1 h1 d => ?_
    cases d <;> cases hv <;> first | exact .pure rfl | exact r_stuck _ _ | exact .dead (.unsupported _ (by simp))
  · refine SemR.bindE (r_underlying t) fun R1 h1 d => ?_
    cases d <;> cases hv <;> first | exact .pure rfl | exact r_stuck _ _ | exact .dead (.unsupported _ (by simp))
theorem r_eqGuard {v v' y y' : Value} (hv : VR X.G R v v') (hy : VR X.G R y y') (op : BinOp) (t : TypeId) (a b : Operand) (hg : X.P.eqGuardType X.P.depth t = false) (h1 : v ≠ .nilIface) (h2 : y ≠ .nilIface) : SemR X EqR R (eqGuard op t a b v y) (eqGuard op t a b v' y') := by
  unfold eqGuard
  cases op <;> first | exact .pure rfl | skip
  all_goals
    cases hv with
    | agg h1 h2 =>
      cases hy with
      | agg h3 h4 =>
        dsimp only
        refine r_program ?_
        refine r_program ?_
        rw [hg]
        exact .pure rfl
      | anyN => exact absurd rfl ‹_›
      | _ => exact .pure rfl
    | anyN => exact absurd rfl h1
    | _ => cases hy <;> first | exact absurd rfl h2 | exact .pure rfl
/-- '==' and '!=' go to 'equal' but for numbers and texts. -/
theorem r_eqBin {v v' y y' : Value} (hv : VR X.G R v v') (hy : VR X.G R y y') (op : BinOp) (t : TypeId) (ho : op = .eql ∨ op = .neq) (h1 : v ≠ .nilIface) (h2 : y ≠ .nilIface) (he : SemR X EqR R (Op.equal t v y) (Op.equal t v' y')) : SemR X (VX X) R (binOp op t v y) (binOp op t v' y') := by
  have e1 : SemR X (VX X) R (do pure (.bool (← Op.equal t v y))) (do pure (.bool (← Op.equal t v' y'))) := SemR.bindE he fun _ _ _ => .pure (.bool _)
  have e2 : SemR X (VX X) R (do pure (.bool (!(← Op.equal t v y)))) (do pure (.bool (!(← Op.equal t v' y')))) := SemR.bindE he fun _ _ _ => .pure (.bool _)
  rcases ho with rfl | rfl
  · cases hv with
    | int k n =>
      cases hy with
      | int k' n' =>
        unfold binOp
        dsimp only
        split
        · exact r_stuck _ _
        · exact r_intCmp _ _ _
      | anyN => exact absurd rfl h2
      | _ => exact e1
    | string s =>
      cases hy with
      | string s' => exact r_stringOp .eql s s'
      | _ => exact e1
    | anyN => exact absurd rfl h1
    | _ => cases hy <;> exact e1
  · cases hv with
    | int k n =>
      cases hy with
      | int k' n' =>
        unfold binOp
        dsimp only
        split
        · exact r_stuck _ _
        · exact r_intCmp _ _ _
      | anyN => exact absurd rfl h2
      | _ => exact e2
    | string s =>
      cases hy with
      | string s' => exact r_stringOp .neq s s'
      | _ => exact e2
    | anyN => exact absurd rfl h1
    | _ => cases hy <;> exact e2
theorem halts_under {t : TypeId} {f : TypeDesc → Sem β} (h : ∀ d, X.P.underlying t = some d → Halts X.P (f d)) : Halts X.P ((underlying t).bind f) := by
  intro w
  cases hd : X.P.underlying t with
  | none => exact ⟨.stuck "no such type", w, by rw [run_bind]; simp [underlying, program, Bind.bind, Sem.bind, Sem.run, hd, stuck], trivial⟩
  | some d =>
    obtain ⟨x, w', h1, h2⟩ := h d hd w
    exact ⟨x, w', by rw [run_bind]; simp only [underlying, program, Bind.bind, Sem.bind, Sem.run, hd, pure]; exact h1, h2⟩
theorem halts_equalAny {t : TypeId} (ht : ∀ ms, X.P.underlying t ≠ some (.interface ms)) {v y : Value} (h : v = .nilIface ∨ y = .nilIface) : Halts X.P (Op.equal t v y) := by
  show Halts X.P (Op.equalIn (9999 + 1) t v y)
  unfold Op.equalIn
  refine halts_under fun d hd => ?_
  rcases h with rfl | rfl
  · cases d with
    | interface ms => exact absurd hd (ht ms)
    | int k => cases y <;> first | exact .stuck _ | exact .unsupported .addressObserved (by simp)
    | _ => exact .stuck _
  · cases d with
    | interface ms => exact absurd hd (ht ms)
    | int k =>
      cases v with
      | pointer o => cases o <;> exact .unsupported .addressObserved (by simp)
      | _ => exact .stuck _
    | _ =>
      cases v with
      | pointer o => cases o <;> exact .stuck _
      | slice o => cases o <;> exact .stuck _
      | map o => cases o <;> exact .stuck _
      | _ => exact .stuck _
theorem halts_eqOpAny {t : TypeId} (ht : ∀ ms, X.P.underlying t ≠ some (.interface ms)) {v y : Value} (h : v = .nilIface ∨ y = .nilIface) (op : BinOp) (a b : Operand) (ho : op = .eql ∨ op = .neq) : Halts X.P (do eqGuard op t a b v y; binOp op t v y) := by
  have hb : Halts X.P (binOp op t v y) := by
    have e := halts_equalAny (X := X) ht h
    rcases ho with rfl | rfl <;> rcases h with rfl | rfl
    · exact e.bind _
    · cases v with
      | pointer o => cases o <;> exact e.bind _
      | _ => exact e.bind _
    · exact e.bind _
    · cases v with
      | pointer o => cases o <;> exact e.bind _
      | _ => exact e.bind _
  intro w
  show ∃ x w', ((eqGuard op t a b v y).bind fun _ => binOp op t v y).run X.P w = .halt x w' ∧ Dead x
  rw [run_bind]
  have hg : (∃ w', (eqGuard op t a b v y).run X.P w = .ok () w') ∨ ∃ x w', (eqGuard op t a b v y).run X.P w = .halt x w' ∧ Dead x := by
    have both : (∃ w', (Op.eqGuardIn Op.maxDepth t .nilIface .nilIface).run X.P w = .ok false w') ∨ ∃ x w', (Op.eqGuardIn Op.maxDepth t .nilIface .nilIface).run X.P w = .halt x w' ∧ Dead x := by
      show (∃ w', (Op.eqGuardIn (9999 + 1) t .nilIface .nilIface).run X.P w = .ok false w') ∨ ∃ x w', (Op.eqGuardIn (9999 + 1) t .nilIface .nilIface).run X.P w = .halt x w' ∧ Dead x
      unfold Op.eqGuardIn
      simp only [Bind.bind, run_bind]
      cases hd : X.P.underlying t with
      | none => exact .inr ⟨.stuck "no such type", w, by simp [underlying, program, Bind.bind, Sem.bind, Sem.run, hd, stuck], trivial⟩
      | some d =>
        have : (underlying t).run X.P w = .ok d w := by simp [underlying, program, Bind.bind, Sem.bind, Sem.run, hd, pure]
        rw [this]
        cases d with
        | interface ms => exact absurd hd (ht ms)
        | _ => exact .inl ⟨w, rfl⟩
    by_cases hbb : v = .nilIface ∧ y = .nilIface
    · obtain ⟨rfl, rfl⟩ := hbb
      unfold eqGuard
      rcases ho with rfl | rfl
      all_goals
        rcases both with ⟨w', e⟩ | ⟨x, w', e, hx⟩
        · cases a <;> cases b <;> first
            | exact .inl ⟨w, rfl⟩
            | exact .inl ⟨w', by show ((Op.eqGuardIn Op.maxDepth t .nilIface .nilIface).bind _).run X.P w = _; rw [run_bind, e]; rfl⟩
        · cases a <;> cases b <;> first
            | exact .inl ⟨w, rfl⟩
            | exact .inr ⟨x, w', by show ((Op.eqGuardIn Op.maxDepth t .nilIface .nilIface).bind _).run X.P w = _; rw [run_bind, e], hx⟩
    · left
      unfold eqGuard
      rcases ho with rfl | rfl
      all_goals
        simp only [Bool.not_true, Bool.false_eq_true, if_false]
        rcases h with rfl | rfl
        · cases y <;> first | exact (hbb ⟨rfl, rfl⟩).elim | exact ⟨w, rfl⟩
        · cases v <;> first | exact (hbb ⟨rfl, rfl⟩).elim | exact ⟨w, rfl⟩
  rcases hg with ⟨w', e⟩ | ⟨x, w', e, hx⟩
  · rw [e]; exact hb w'
  · rw [e]; exact ⟨x, w', rfl, hx⟩
/-- '==' and '!='. -/
theorem r_eqOp {v v' y y' : Value} (hv : VR X.G R v v') (hy : VR X.G R y y') (op : BinOp) (t : TypeId) (a b : Operand) (ho : op = .eql ∨ op = .neq) (hg : X.P.eqGuardType X.P.depth t = false) (ht : ∀ ms, X.P.underlying t ≠ some (.interface ms))
    (he : ∀ R', BR.Ext X.P.globals.size R R' → SemR X EqR R' (Op.equal t v y) (Op.equal t v' y')) : SemR X (VX X) R (do eqGuard op t a b v y; binOp op t v y) (do eqGuard op t a b v' y'; binOp op t v' y') := by
  by_cases hn : v = .nilIface ∨ y = .nilIface
  · exact .dead (halts_eqOpAny ht hn op a b ho)
  · have h1 : v ≠ .nilIface := fun e => hn (.inl e)
    have h2 : y ≠ .nilIface := fun e => hn (.inr e)
    refine SemR.bindE (r_eqGuard hv hy op t a b hg h1 h2) fun R' hs _ => ?_
    exact r_eqBin (hv.mono hs.sub) (hy.mono hs.sub) op t ho h1 h2 (he R' hs)
theorem r_not {v v' : Value} (hv : VR X.G R v v') : SemR X (VX X) R (Op.unary .not v) (Op.unary .not v') := by
  cases hv with
  | bool b => exact .pure (.bool _)
  | _ => exact r_stuck _ _

/-! ### conversions between kinds of numbers -/
theorem r_convert {v v' : Value} (hv : VR X.G R v v') (s d : TypeId) (hs : ∃ k, X.P.underlying s = some (.int k)) (hd : ∃ k, X.P.underlying d = some (.int k)) : SemR X (VX X) R (convert s d v) (convert s d v') := by
  obtain ⟨ks, hs⟩ := hs
  obtain ⟨kd, hd⟩ := hd
  unfold convert
  refine (r_underlyingI s).bind fun R1 h1 x x' hx => ?_
  obtain ⟨rfl, hx⟩ := hx
  rw [hs] at hx; cases hx
  refine (r_underlyingI d).bind fun R2 h2 x x' hx => ?_
  obtain ⟨rfl, hx⟩ := hx
  rw [hd] at hx; cases hx
  cases hv with
  | int k n => exact .pure (.int _ _)
  | _ => exact .dead (.unsupported _ (by simp))
end

end Go.Proofs.Ytcgjppacnhmjlaa.Sim
end
