/- Own texts: SimI, SimJ, SimK, SimL. -/
import Derived.Test.YtcgjppacnhmjlaaFmAC
import GoSem.Machine.Exec
import GoSem.Step
import Derived.Conc.Events

section
set_option linter.unusedVariables false
set_option linter.unusedSimpArgs false
set_option linter.unusedSectionVars false
/-! Operations: conversions of pointers, atomic pointers, calls; every operation. -/
namespace Go.Proofs.Ytcgjppacnhmjlaa.Sim
open Go
set_option linter.unusedVariables false

section
variable {X : Ctx} {R : BR} {α β γ δ : Type}

theorem r_seenAt {a a' : Addr} (h : AR R a a') : SemR X AR R (Conv.seenAt a) (Conv.seenAt a') := by
  unfold Conv.seenAt
  refine (r_viewAt h.1).bind fun R1 h1 x y e => ?_
  have h := h.mono h1.sub
  rcases e with ⟨rfl, rfl⟩ | ⟨x, x', u, hu, rfl, rfl, hx⟩
  · exact .pure h
  · dsimp only
    obtain ⟨b, o, s⟩ := a
    obtain ⟨b', o', s'⟩ := a'
    obtain ⟨xb, xo, xs⟩ := x
    obtain ⟨xb', xo', xs'⟩ := x'
    obtain ⟨k1, k2, k3⟩ := h
    obtain ⟨k4, k5, k6⟩ := hx
    dsimp only at k1 k2 k3 k4 k5 k6
    subst k2 k3 k5 k6
    dsimp only
    split
    · exact .pure ⟨k4, rfl, rfl⟩
    · refine r_ite (.bind (.unsupported _ (by simp)) _) fun _ => ?_
      refine r_program ?_
      cases byteOfCell X.P X.P.depth u o' with
      | none => exact .dead (.unsupported _ (by simp))
      | some bb =>
        dsimp only
        refine r_shapeE k4 fun sh' sh hsh => ?_
        have hsh := hsh.vw hu
        subst hsh
        cases sh with
        | none => exact .dead (.unsupported _ (by simp))
        | some sh =>
          obtain ⟨e, n⟩ := sh
          dsimp only
          refine r_ite (.bind (.unsupported _ (by simp)) _) fun _ => ?_
          cases cellAtBytes X.P X.P.depth e (n / X.P.cellsOf e) xo' bb with
          | none => exact .dead (.unsupported _ (by simp))
          | some c => exact .pure ⟨k4, rfl, rfl⟩
theorem r_cellsIn {u : TypeId} (hu : X.vw u) {r r' : Nat} (h : R r r') : SemR X EqR R (cellsIn r) (cellsIn r') := by
  refine r_shapeE h fun s' s hs => ?_
  have hs := hs.vw hu
  subst hs
  cases s with
  | some s => exact .pure rfl
  | none => exact .getN h (fun _ _ _ _ => .pure rfl) fun _ _ _ _ _ => .pure rfl
theorem r_variablesAt {v : TypeId} (hu : X.vw v) {a a' : Addr} (h : AR R a a') (u : TypeId) (n : Nat) : SemR X EqR R (variablesAt a u n) (variablesAt a' u n) := by
  refine r_program ?_
  refine r_shapeE h.1 fun s' s hs => ?_
  have hs := hs.vw hu
  subst hs
  cases s with
  | none => exact .pure rfl
  | some s =>
    obtain ⟨e, c⟩ := s
    have := h.2.1
    refine .pure ?_
    show liesAt _ _ _ _ a.off _ _ = liesAt _ _ _ _ a'.off _ _
    rw [this]
theorem r_newView {x x' : Addr} {u : TypeId} (hu : X.vw u) (h : AR R x x') : SemR X (fun R a b => R a b) R (newObj (.view x u)) (newObj (.view x' u)) := .newV hu h fun r r' _ _ _ _ => .pure (.inr ⟨rfl, rfl⟩)

theorem r_toUnsafe {v v' : Value} (hv : VR X.G R v v') {s d t : TypeId} (hs : X.P.underlying s = some (.pointer t)) (hd : X.P.underlying d = some .unsafePointer) (ht : X.vw t) : SemR X (VX X) R (convert s d v) (convert s d v') := by
  unfold convert
  refine (r_underlyingI s).bind fun R1 h1 x x' hx => ?_
  obtain ⟨rfl, hx⟩ := hx
  rw [hs] at hx; cases hx
  refine (r_underlyingI d).bind fun R2 h2 x x' hx => ?_
  obtain ⟨rfl, hx⟩ := hx
  rw [hd] at hx; cases hx
  have hv := (hv.mono h1.sub).mono h2.sub
  have key : SemR X (VX X) R2 (Conv.unsafePointer s d v) (Conv.unsafePointer s d v') := by
    unfold Conv.unsafePointer
    refine (r_underlyingI s).bind fun R3 h3 x x' hx => ?_
    obtain ⟨rfl, hx⟩ := hx
    rw [hs] at hx; cases hx
    refine (r_underlyingI d).bind fun R4 h4 x x' hx => ?_
    obtain ⟨rfl, hx⟩ := hx
    rw [hd] at hx; cases hx
    have hv := (hv.mono h3.sub).mono h4.sub
    cases hv with
    | pnil => exact .pure .pnil
    | ptr ha =>
      dsimp only
      refine (r_seenAt ha).bind fun R5 h5 a a' ha => ?_
      refine SemR.bindE (r_cellsIn ht ha.1) fun R6 h6 n => ?_
      have ha := ha.mono h6.sub
      refine SemR.bindE (r_sizeOf t) fun R7 h7 m => ?_
      have ha := ha.mono h7.sub
      rw [ha.2.1, ha.2.2]
      cases n with
      | none =>
        dsimp only
        split
        · exact (r_newView ht ha).bind fun R8 h8 r r' hr => .pure (.ptr ⟨hr, rfl, rfl⟩)
        · exact .pure (.ptr ha)
      | some n =>
        dsimp only
        split
        · exact (r_newView ht ha).bind fun R8 h8 r r' hr => .pure (.ptr ⟨hr, rfl, rfl⟩)
        · exact .pure (.ptr ha)
    | _ => exact r_stuck _ _
  cases hv <;> exact key
theorem r_fromUnsafe {v v' : Value} (hv : VR X.G R v v') {s d t : TypeId} (hs : X.P.underlying s = some .unsafePointer) (hd : X.P.underlying d = some (.pointer t)) (ht : X.vw t) : SemR X (VX X) R (convert s d v) (convert s d v') := by
  unfold convert
  refine (r_underlyingI s).bind fun R1 h1 x x' hx => ?_
  obtain ⟨rfl, hx⟩ := hx
  rw [hs] at hx; cases hx
  refine (r_underlyingI d).bind fun R2 h2 x x' hx => ?_
  obtain ⟨rfl, hx⟩ := hx
  rw [hd] at hx; cases hx
  have hv := (hv.mono h1.sub).mono h2.sub
  have key : SemR X (VX X) R2 (Conv.unsafePointer s d v) (Conv.unsafePointer s d v') := by
    unfold Conv.unsafePointer
    refine (r_underlyingI s).bind fun R3 h3 x x' hx => ?_
    obtain ⟨rfl, hx⟩ := hx
    rw [hs] at hx; cases hx
    refine (r_underlyingI d).bind fun R4 h4 x x' hx => ?_
    obtain ⟨rfl, hx⟩ := hx
    rw [hd] at hx; cases hx
    have hv := (hv.mono h3.sub).mono h4.sub
    cases hv with
    | pnil => exact .pure .pnil
    | ptr ha =>
      dsimp only
      refine (r_seenAt ha).bind fun R5 h5 a a' ha => ?_
      refine SemR.bindE (r_sizeOf t) fun R6 h6 m => ?_
      have ha := ha.mono h6.sub
      refine SemR.bindE (r_variablesAt ht ha t 1) fun R7 h7 b => ?_
      have ha := ha.mono h7.sub
      split
      · exact .pure (.ptr ha)
      · refine r_shapeE ha.1 fun sh' sh hsh => ?_
        have hsh := hsh.vw ht
        subst hsh
        cases sh with
        | none => exact .dead (.bind (.unsupported _ (by simp)) _)
        | some sh =>
          obtain ⟨e, n⟩ := sh
          dsimp only
          refine r_program ?_
          refine r_program ?_
          refine r_ite (.bind (.unsupported _ (by simp)) _) fun _ => ?_
          exact (r_newView ht ha).bind fun R8 h8 r r' hr => .pure (.ptr ⟨hr, rfl, rfl⟩)
    | _ => exact r_stuck _ _
  cases hv <;> exact key

/-! ### atomic pointers -/
theorem r_readP {a a' : Addr} (h : AR R a a') : SemR X (fun R v v' => VR X.G R v v' ∧ (∃ x, v = .pointer x) ∧ ∃ x, v' = .pointer x) R (Extern.Atomic.read .ptr a) (Extern.Atomic.read .ptr a') := by
  unfold Extern.Atomic.read
  refine (r_load h .atomic).bind fun R1 h1 v v' hv => ?_
  cases hv with
  | pnil => exact .pure ⟨.pnil, ⟨_, rfl⟩, _, rfl⟩
  | ptr ha => exact .pure ⟨.ptr ha, ⟨_, rfl⟩, _, rfl⟩
  | _ => exact .dead (.unsupported _ (by simp))
theorem r_loadP {xs xs' : Array Value} (h : AVR X.G R xs xs') : SemR X (VX X) R (Extern.Atomic.loadT .ptr xs) (Extern.Atomic.loadT .ptr xs') := by
  obtain ⟨l⟩ := xs
  obtain ⟨l'⟩ := xs'
  match l, l', h with
  | [], l', h => exact r_stuck _ _
  | a :: b :: l, l', h => exact .dead (by unfold Extern.Atomic.loadT; exact .stuck _)
  | [a], [], h => exact absurd h.1 (by simp)
  | [a], _ :: _ :: _, h => exact absurd h.1 (by simp)
  | [a], [a'], h =>
    have ha := h.2 0 a a' rfl rfl
    exact (r_asAddr ha).bind fun R1 h1 x x' hx => (r_readP hx).imp fun _ _ _ e => e.1
theorem r_touchesFrozen (hz : X.fz = true) {a a' : Addr} (h : AR R a a') : SemR X EqR R (Extern.Atomic.touchesFrozen a) (Extern.Atomic.touchesFrozen a') := by
  unfold Extern.Atomic.touchesFrozen
  refine (r_viewAt h.1).bind fun R1 h1 x y e => ?_
  rcases e with ⟨rfl, rfl⟩ | ⟨x, x', u, _, rfl, rfl, hx⟩
  · exact r_frozen hz (h.mono h1.sub)
  · dsimp only
    refine (r_typeInfo u).bind fun R2 h2 ti ti' hti => ?_
    obtain ⟨rfl, _⟩ := hti
    refine r_ite (.bind (.unsupported _ (by simp)) _) fun _ => ?_
    have hx := hx.mono h2.sub
    have any : ∀ (l : List Nat) {R : BR}, AR R x x' → SemR X EqR R (l.anyM fun i => frozen { x with off := x.off + i, spot := none }) (l.anyM fun i => frozen { x' with off := x'.off + i, spot := none }) := by
      intro l
      induction l with
      | nil => intro R _; exact .pure rfl
      | cons i l ih =>
        intro R hx
        rw [List.anyM, List.anyM]
        refine SemR.bindE (r_frozen hz (a := { x with off := x.off + i, spot := none }) (a' := { x' with off := x'.off + i, spot := none }) ⟨hx.1, by simp [hx.2.1], rfl⟩) fun R3 h3 b => ?_
        cases b with
        | true => exact .pure rfl
        | false => exact ih (hx.mono h3.sub)
    exact any _ hx
theorem r_casP (hz : X.fz = true) (hf : BR.Fine X.P.globals.size R) {xs xs' : Array Value} (h : AVR X.G R xs xs') : SemR X (VX X) R (Extern.Atomic.casT .ptr xs) (Extern.Atomic.casT .ptr xs') := by
  obtain ⟨l⟩ := xs
  obtain ⟨l'⟩ := xs'
  match l, l', h with
  | [], l', h => exact r_stuck _ _
  | [_], l', h => exact r_stuck _ _
  | [_, _], l', h => exact r_stuck _ _
  | _ :: _ :: _ :: _ :: _, l', h => exact .dead (by unfold Extern.Atomic.casT; exact .stuck _)
  | [a, b, c], [], h => exact absurd h.1 (by simp)
  | [a, b, c], [_], h => exact absurd h.1 (by simp)
  | [a, b, c], [_, _], h => exact absurd h.1 (by simp)
  | [a, b, c], _ :: _ :: _ :: _ :: _, h => exact absurd h.1 (by simp)
  | [a, b, c], [a', b', c'], h =>
    have ha := h.2 0 a a' rfl rfl
    have hb := h.2 1 b b' rfl rfl
    have hc := h.2 2 c c' rfl rfl
    unfold Extern.Atomic.casT
    refine (r_asAddr ha).bind fun R1 h1 x x' hx => ?_
    refine SemR.bindE (r_touchesFrozen hz hx) fun R2 h2 t => ?_
    refine r_ite (.bind (.unsupported _ (by simp)) _) fun _ => ?_
    have hx := hx.mono h2.sub
    refine (r_readP hx).bind fun R3 h3 v v' hv => ?_
    obtain ⟨hv, ⟨p, rfl⟩, q, rfl⟩ := hv
    have hx := hx.mono h3.sub
    have hb := ((hb.mono h1.sub).mono h2.sub).mono h3.sub
    have hc := ((hc.mono h1.sub).mono h2.sub).mono h3.sub
    have hf := h3.fine (h2.fine (h1.fine hf))
    have fin : ∀ {R4 : BR}, BR.Ext X.P.globals.size R3 R4 → ∀ e : Bool, SemR X (VX X) R4 (do
        if e then store x c .atomic
        pure (.bool e)) (do
        if e then store x' c' .atomic
        pure (.bool e)) := by
      intro R4 h4 e
      cases e with
      | true => exact SemR.bindE (r_store (hx.mono h4.sub) (hc.mono h4.sub) .atomic) fun _ _ _ => .pure (.bool _)
      | false => exact .pure (.bool _)
    cases hb with
    | pnil =>
      exact SemR.bindE (r_samePointer hz hf hv .pnil rfl rfl rfl rfl) fun R4 h4 e => fin h4 e
    | ptr hb' =>
      exact SemR.bindE (r_samePointer hz hf hv (.ptr hb') rfl rfl rfl rfl) fun R4 h4 e => fin h4 e
    | _ => exact .dead (.bind (.stuck _) _)
end

end Go.Proofs.Ytcgjppacnhmjlaa.Sim
end

section
set_option linter.unusedVariables false
set_option linter.unusedSimpArgs false
set_option linter.unusedSectionVars false
/-! Every operation that the program is made of; what a function gives back. -/
namespace Go.Proofs.Ytcgjppacnhmjlaa.Sim
open Go
set_option linter.unusedVariables false

def okVal : Value → Bool
  | .bool _ | .int _ _ | .string _ | .pointer none | .slice none _ _ | .nilFunc => true
  | _ => false
theorem okVal_vr {G : FuncId → Prop} {R : BR} {v : Value} (h : okVal v = true) : VR G R v v := by
  unfold okVal at h
  split at h <;> first | cases h; done | constructor

def okOpd (fs : List Nat) : Operand → Bool
  | .tmp _ => true
  | .const v => okVal v
  | .global _ => false
  | .func f => fs.contains f
def isNil : Operand → Bool
  | .const (.pointer none) => true
  | _ => false
def okEq (P : Program) (fz : Bool) (t : TypeId) (x y : Operand) : Bool :=
  !P.eqGuardType P.depth t && (match P.underlying t with | some (.interface _) => false | _ => true) && (eqOk P fz 10 t || isNil x || isNil y)
def okCell : Value → Bool
  | .nilIface => true
  | v => okVal v
def okZ : Value → Bool
  | .agg xs => xs.all okCell
  | v => okCell v
theorem okCell_vr {G : FuncId → Prop} {R : BR} {v : Value} (h : okCell v = true) : VR G R v v := by
  cases v <;> first | exact .anyN | exact okVal_vr h
theorem okZ_vr {G : FuncId → Prop} {R : BR} {v : Value} (h : okZ v = true) : VR G R v v := by
  cases v with
  | agg xs => exact .agg rfl fun i v v' e e' => by rw [e] at e'; cases e'; exact okCell_vr ((Array.all_eq_true_iff_forall_mem.1 h) v (Array.mem_of_getElem? e))
  | _ => exact okCell_vr h
/-- The type's zero is spoken of. -/
def okTy (P : Program) (t : TypeId) : Bool := match P.info? t with
  | some i => (match i.zero with | some v => okZ v | none => true)
  | none => true
def okSl (P : Program) (t : TypeId) : Bool := match P.underlying t with
  | some (.slice e) => okTy P e
  | _ => true
def okConv (P : Program) (vs : List Nat) (s d : TypeId) : Bool :=
  match P.underlying s, P.underlying d with
  | some (.int _), some (.int _) => true
  | some (.pointer t), some .unsafePointer => vs.contains t
  | some .unsafePointer, some (.pointer t) => vs.contains t
  | _, _ => false
def okCall (P : Program) (fs : List Nat) (c : Call) : Bool :=
  c.args.all (okOpd fs) && match c.callee with
  | .value f => okOpd fs f
  | .invoke _ _ => false
  | .builtin b => match b with
    | .len | .copy | .max => true
    | .unsafeString => match c.argTypes[0]? with
      | none => true
      | some t => match P.underlying t with
        | some (.pointer e) => (match P.underlying e with | some (.int .u8) => true | _ => false)
        | _ => true
    | .append => (match c.argTypes[0]? with | none => true | some t => okSl P t) && (match c.argTypes[1]? with
      | none => true
      | some t => match P.underlying t with | some (.int _) => false | _ => true)
    | _ => false
def okOp (P : Program) (fs : List Nat) (fz : Bool) (vs : List Nat) : Op → Bool
  | .move x | .assign x | .box _ x | .load _ x | .nilCheck x | .fieldAddr _ x _ | .field _ x _ | .extract x _ => okOpd fs x
  | .alloc t => okTy P t
  | .pick c a b => okOpd fs c && okOpd fs a && okOpd fs b
  | .build t ps => okTy P t && ps.all fun p => okOpd fs p.2
  | .buildSlice t _ ps => okSl P t && ps.all fun p => okOpd fs p.2
  | .makeSlice t a x => okSl P t && (okOpd fs a && okOpd fs x)
  | .store _ a x | .indexAddr _ a x | .index _ a x => okOpd fs a && okOpd fs x
  | .binOp op t x y _ => okOpd fs x && okOpd fs y && (okBin op || ((op matches .eql | .neq) && okEq P fz t x y))
  | .unOp .not _ x => okOpd fs x
  | .convert s d x => okOpd fs x && okConv P vs s d
  | .makeFunc (.func f) a b => fs.contains f && a.all (okOpd fs) && b.all (okOpd fs)
  | .slice _ x l h m => okOpd fs x && l.all (okOpd fs) && h.all (okOpd fs) && m.all (okOpd fs)
  | .call c => okCall P fs c
  | _ => false
def okCode (P : Program) (fs : List Nat) (fz : Bool) (vs : List Nat) : Code → Bool
  | .skip | .exit _ | .ret => true
  | .region _ ops _ => ops.all fun o => okOp P fs fz vs o.op
  | .seq a b => okCode P fs fz vs a && okCode P fs fz vs b
  | .cond c a b => okOpd fs c && okCode P fs fz vs a && okCode P fs fz vs b
  | .block _ b | .loop b => okCode P fs fz vs b
  | _ => false

/-- The program's part that is looked at: these functions, these types. -/
def ctx (P : Program) (fs : List Nat) (fz : Bool) (vs : List Nat) : Ctx := { P := P, G := fun f => fs.contains f = true, fz := fz, vw := fun u => vs.contains u = true }

inductive NextR (X : Ctx) (R : BR) : Next → Next → Prop
  | value {v v' : Value} : VR X.G R v v' → NextR X R (.value v) (.value v')
  | skip : NextR X R .skip .skip
  | enter {f : FuncId} {xs xs' : Array Value} : X.G f → AVR X.G R xs xs' → (∃ fn c, X.P.funcs[f]? = some fn ∧ fn.body = some c) → NextR X R (.enter f xs) (.enter f xs')

structure Fns (X : Ctx) : Prop where
  fn : ∀ f, X.G f → ∃ fn, X.P.funcs[f]? = some fn ∧ (fn.name == "runtime.NumGoroutine") = false ∧ ((∃ c, fn.body = some c) ∨
    (fn.body = none ∧ Extern.findNext fn = none ∧ ∃ e, Extern.find fn = some e ∧ ∀ R xs xs', BR.Fine X.P.globals.size R → AVR X.G R xs xs' → SemR X (VX X) R (e xs) (e xs')))

section
variable {X : Ctx} {R : BR} {α β γ δ : Type}

theorem zok_of {P : Program} (hP : X.P = P) {t : TypeId} (h : okTy P t = true) : ZOk X t := by
  intro i v hi hv R
  rw [hP] at hi
  unfold okTy at h
  rw [hi] at h
  dsimp only at h
  rw [hv] at h
  exact okZ_vr h
theorem zsl_of {P : Program} (hP : X.P = P) {t : TypeId} (h : okSl P t = true) (e : TypeId) (hu : X.P.underlying t = some (.slice e)) : ZOk X e := by
  rw [hP] at hu
  unfold okSl at h
  rw [hu] at h
  exact zok_of hP h
theorem r_callFunc (F : Fns X) (hf : BR.Fine X.P.globals.size R) {f : FuncId} (hg : X.G f) {xs xs' : Array Value} (h : AVR X.G R xs xs') : SemR X (NextR X) R (callFunc f xs) (callFunc f xs') := by
  obtain ⟨fn, h1, h2, h3⟩ := F.fn f hg
  unfold callFunc
  refine r_program ?_
  rw [h1]
  dsimp only
  rw [h2]
  simp only [Bool.false_eq_true, if_false]
  rcases h3 with ⟨c, hc⟩ | ⟨hb, hn, e, he, hr⟩
  · rw [hc]
    simp only [Option.isNone_some, Bool.false_eq_true, if_false]
    exact .pure (.enter hg h ⟨fn, c, h1, hc⟩)
  · rw [hb, hn, he]
    simp only [Option.isNone_none, if_true]
    refine .mark (.inr ⟨f, rfl⟩) ?_
    exact (hr R xs xs' hf h).bind fun R1 _ v v' hv => .pure (.value hv)

theorem r_value {s s' : Sem Value} (h : SemR X (VX X) R s s') : SemR X (NextR X) R (do pure (.value (← s))) (do pure (.value (← s'))) := h.bind fun _ _ _ _ hv => .pure (.value hv)
theorem r_unit {s s' : Sem Unit} (h : SemR X EqR R s s') : SemR X (NextR X) R (do s; pure .skip) (do s'; pure .skip) := h.bind fun _ _ _ _ _ => .pure .skip

theorem r_mapM {ι : Type} {f f' : ι → Sem Value} : ∀ (l : List ι) {R : BR} {acc acc' : Array Value}, (∀ i ∈ l, ∀ R', BR.Ext X.P.globals.size R R' → SemR X (VX X) R' (f i) (f' i)) → AVR X.G R acc acc' →
    SemR X (AVR X.G) R (l.foldlM (fun b a => do pure (b.push (← f a))) acc) (l.foldlM (fun b a => do pure (b.push (← f' a))) acc')
  | [], R, acc, acc', _, ha => .pure ha
  | i :: l, R, acc, acc', h, ha => by
    rw [List.foldlM_cons, List.foldlM_cons]
    refine SemR.bind (A := AVR X.G) ((h i (by simp) R (.refl _ _)).bind fun R1 h1 v v' hv => .pure ((ha.mono h1.sub).push hv)) fun R1 h1 b b' hb => ?_
    exact r_mapM l (fun j hj R' h' => h j (by simp [hj]) R' (h1.trans h')) hb

theorem r_results (fn : Func) {ts ts' : Array Value} (h : AVR X.G R ts ts') : SemR X (VX X) R (results fn ts) (results fn ts') := by
  unfold results
  refine SemR.bind (A := AVR X.G) ?_ fun R1 h1 vs vs' hv => ?_
  · rw [Array.mapM_eq_foldlM, Array.mapM_eq_foldlM, ← Array.foldlM_toList, ← Array.foldlM_toList]
    refine r_mapM _ (fun r _ R' hs => ?_) .nil
    cases r with
    | tmp t => exact .pure ((h.mono hs.sub).getD t .undef)
    | cell a t => exact (r_asAddr ((h.mono hs.sub).getD a .undef)).bind fun R2 h2 x x' hx => r_loadVar hx t
  · by_cases h1 : vs.size = 1
    · have h1' : vs'.size = 1 := by rw [← hv.1]; exact h1
      simp only [h1, h1', dite_true]
      refine .pure (hv.2 0 _ _ ?_ ?_) <;> simp [h1, h1']
    · have h1' : ¬ vs'.size = 1 := by rw [← hv.1]; exact h1
      simp only [h1, h1', dite_false]
      exact .pure hv.tuple

theorem AVR.map {ι : Type} {G : FuncId → Prop} {f f' : ι → Value} (xs : Array ι) (h : ∀ x ∈ xs, VR G R (f x) (f' x)) : AVR G R (xs.map f) (xs.map f') := by
  refine ⟨by simp, fun i v v' ha hb => ?_⟩
  rw [Array.getElem?_map] at ha hb
  cases hx : xs[i]? with
  | none => rw [hx] at ha; cases ha
  | some x =>
    rw [hx] at ha hb
    cases ha; cases hb
    exact h x (Array.mem_of_getElem? hx)
theorem PVR.map {G : FuncId → Prop} {ρ ρ' : Operand → Value} : ∀ (l : List (Nat × Operand)), (∀ p ∈ l, VR G R (ρ p.2) (ρ' p.2)) → PVR G R (l.map fun (i, x) => (i, ρ x)) (l.map fun (i, x) => (i, ρ' x))
  | [], _ => .nil
  | (i, x) :: l, h => .cons (h (i, x) (by simp)) (PVR.map l fun p hp => h p (by simp [hp]))

theorem r_call {P : Program} {fs vs : List Nat} {fz : Bool} (hX : X = ctx P fs fz vs) (F : Fns X) (hf : BR.Fine X.P.globals.size R) {ρ ρ' : Operand → Value} (hρ : ∀ x, okOpd fs x = true → VR X.G R (ρ x) (ρ' x))
    (c : Call) (t : TypeId) (ho : okCall P fs c = true) : SemR X (NextR X) R (do let d ← resolve ρ c t; invoke d.target d.args) (do let d ← resolve ρ' c t; invoke d.target d.args) := by
  have hP : X.P = P := by rw [hX]; rfl
  simp only [okCall, Bool.and_eq_true] at ho
  obtain ⟨ha, ho⟩ := ho
  have hargs : AVR X.G R (c.args.map ρ) (c.args.map ρ') := AVR.map c.args fun x hx => hρ x ((Array.all_eq_true_iff_forall_mem.1 ha) x hx)
  unfold resolve
  cases hcl : c.callee with
  | value f =>
    rw [hcl] at ho
    have hv := hρ f ho
    dsimp only
    revert hv
    generalize ρ f = v
    generalize ρ' f = v'
    intro hv
    cases hv with
    | func g hg h1 h2 h3 h4 => exact r_callFunc F hf hg ((AVR.append ⟨h1, h2⟩ hargs).append ⟨h3, h4⟩)
    | nilFunc => exact r_rt .nilDeref _ trivial
    | _ => exact .dead (.bind (.stuck _) _)
  | invoke r m => rw [hcl] at ho; cases ho
  | builtin b =>
    rw [hcl] at ho
    cases b with
    | len => exact r_value (r_len hargs _ _)
    | copy => exact r_value (r_copy hargs _ _)
    | max => exact r_value (r_max hargs _ _)
    | unsafeString =>
      refine r_value (r_unsafeString hargs _ _ fun pt hpt e he => ?_)
      dsimp only at ho
      rw [hpt] at ho
      dsimp only at ho
      rw [hP] at he ⊢
      rw [he] at ho
      dsimp only at ho
      split at ho
      · assumption
      · cases ho
    | append =>
      dsimp only at ho
      rw [Bool.and_eq_true] at ho
      obtain ⟨ho0, ho⟩ := ho
      refine r_value (r_append (fun t0 e h0 hu => ?_) hargs _ fun t1 ht k e => ?_)
      · rw [h0] at ho0
        exact zsl_of hP ho0 e hu
      · rw [ht] at ho
        dsimp only at ho
        rw [hP] at e
        rw [e] at ho
        cases ho
    | _ => cases ho

/-- ████ EVERY OPERATION. ████ -/
theorem r_execOp {P : Program} {fs vs : List Nat} {fz : Bool} (hX : X = ctx P fs fz vs) (F : Fns X) (hf : BR.Fine X.P.globals.size R) {ρ ρ' : Operand → Value} (hρ : ∀ x, okOpd fs x = true → VR X.G R (ρ x) (ρ' x))
    (hc : ∀ v, ρ (.const v) = v ∧ ρ' (.const v) = v) (o : Oper) (ho : okOp P fs fz vs o.op = true) : SemR X (NextR X) R (execOp ρ o) (execOp ρ' o) := by
  have hP : X.P = P := by rw [hX]; rfl
  have hG : ∀ f, X.G f ↔ fs.contains f = true := by intro f; rw [hX]; exact Iff.rfl
  have hz : X.fz = fz := by rw [hX]; rfl
  have hV : ∀ u, X.vw u ↔ vs.contains u = true := by intro f; rw [hX]; exact Iff.rfl
  have zok : ∀ {t : TypeId}, okTy P t = true → ZOk X t := fun h => zok_of hP h
  have zsl : ∀ {t : TypeId}, okSl P t = true → ∀ e, X.P.underlying t = some (.slice e) → ZOk X e := fun h => zsl_of hP h
  unfold execOp
  cases hop : o.op with
  | move x => rw [hop] at ho; exact .pure (.value (hρ x ho))
  | assign x => rw [hop] at ho; exact .pure (.value (hρ x ho))
  | pick c a b =>
    rw [hop] at ho
    simp only [okOp, Bool.and_eq_true] at ho
    refine SemR.bindE (r_asBool (hρ c ho.1.1)) fun R1 h1 b' => .pure (.value ?_)
    cases b' with
    | true => exact (hρ a ho.1.2).mono h1.sub
    | false => exact (hρ b ho.2).mono h1.sub
  | alloc e => rw [hop] at ho; exact r_value (r_alloc (zok ho))
  | box e x => rw [hop] at ho; exact r_value (r_box (hρ x ho) e)
  | build t ps =>
    rw [hop] at ho
    simp only [okOp, Bool.and_eq_true] at ho
    refine r_value (r_build (zok ho.1) ?_)
    simp only [Array.toList_map]
    exact PVR.map _ fun p hp => hρ p.2 ((Array.all_eq_true_iff_forall_mem.1 ho.2) p (by simpa using hp))
  | buildSlice t n ps =>
    rw [hop] at ho
    simp only [okOp, Bool.and_eq_true] at ho
    refine r_value (r_buildSlice (zsl ho.1) n ?_)
    simp only [Array.toList_map]
    exact PVR.map _ fun p hp => hρ p.2 ((Array.all_eq_true_iff_forall_mem.1 ho.2) p (by simpa using hp))
  | load t a => rw [hop] at ho; exact r_value (r_loadAt (hρ a ho) t)
  | store t a x =>
    rw [hop] at ho
    simp only [okOp, Bool.and_eq_true] at ho
    exact r_unit (r_storeAt (hρ a ho.1) (hρ x ho.2) t)
  | nilCheck x =>
    rw [hop] at ho
    have hv := hρ x ho
    dsimp only
    revert hv
    generalize ρ x = v
    generalize ρ' x = v'
    intro hv
    cases hv with
    | pnil => exact r_rt .nilDeref _ trivial
    | nilFunc => exact r_rt .nilDeref _ trivial
    | anyN => exact r_rt .nilDeref _ trivial
    | ptr h => exact .pure (.value (.ptr h))
    | bool b => exact .pure (.value (.bool b))
    | int k n => exact .pure (.value (.int k n))
    | string s => exact .pure (.value (.string s))
    | snil l c => exact .pure (.value (.snil l c))
    | slice l c h => exact .pure (.value (.slice l c h))
    | func f hg h1 h2 h3 h4 => exact .pure (.value (.func f hg h1 h2 h3 h4))
    | agg h1 h2 => exact .pure (.value (.agg h1 h2))
    | tuple h1 h2 => exact .pure (.value (.tuple h1 h2))
  | binOp op t x y yt =>
    rw [hop] at ho
    simp only [okOp, Bool.and_eq_true, Bool.or_eq_true] at ho
    obtain ⟨⟨hx, hy⟩, ho⟩ := ho
    refine r_value ?_
    rcases ho with ho | ⟨he, hk⟩
    · refine SemR.bindE (s := eqGuard op t x y (ρ x) (ρ y)) (s' := eqGuard op t x y (ρ' x) (ρ' y)) ?_ fun R1 h1 _ => r_binOp (h1.fine hf) ((hρ x hx).mono h1.sub) ((hρ y hy).mono h1.sub) op t ho
      cases op <;> first | (simp only [okBin, Bool.false_eq_true] at ho; done) | exact .pure rfl
    · simp only [okEq, Bool.and_eq_true, Bool.or_eq_true] at hk
      obtain ⟨⟨hk1, hk2⟩, hk3⟩ := hk
      have ho : op = .eql ∨ op = .neq := by cases op <;> simp_all
      refine r_eqOp (hρ x hx) (hρ y hy) op t x y ho (by rw [hP]; simpa using hk1) (fun ms e => ?_) fun R' h' => ?_
      · rw [hP] at e; rw [e] at hk2; cases hk2
      · rcases hk3 with (hk3 | hk3) | hk3
        · exact r_equalIn 10 Op.maxDepth t (by rw [hP, hz]; exact hk3) (by decide) (h'.fine hf) ((hρ x hx).mono h'.sub) ((hρ y hy).mono h'.sub)
        · have : x = .const (.pointer none) := by
            unfold isNil at hk3; split at hk3 <;> first | rfl | cases hk3
          subst this
          rw [(hc _).1, (hc _).2]
          exact (r_equalNil ((hρ y hy).mono h'.sub) t).2
        · have : y = .const (.pointer none) := by
            unfold isNil at hk3; split at hk3 <;> first | rfl | cases hk3
          subst this
          rw [(hc _).1, (hc _).2]
          exact (r_equalNil ((hρ x hx).mono h'.sub) t).1
  | unOp op t x =>
    rw [hop] at ho
    cases op <;> first | (simp only [okOp, Bool.false_eq_true] at ho; done) | exact r_value (r_not (hρ x ho))
  | convert s d x =>
    rw [hop] at ho
    simp only [okOp, Bool.and_eq_true] at ho
    obtain ⟨hx, ho⟩ := ho
    refine r_value ?_
    unfold okConv at ho
    split at ho
    · rename_i h1 h2; exact r_convert (hρ x hx) s d ⟨_, by rw [hP]; exact h1⟩ ⟨_, by rw [hP]; exact h2⟩
    · rename_i h1 h2; exact r_toUnsafe (hρ x hx) (by rw [hP]; exact h1) (by rw [hP]; exact h2) ((hV _).2 ho)
    · rename_i h1 h2; exact r_fromUnsafe (hρ x hx) (by rw [hP]; exact h1) (by rw [hP]; exact h2) ((hV _).2 ho)
    · cases ho
  | makeFunc fn a b =>
    rw [hop] at ho
    cases fn with
    | func f =>
      simp only [okOp, Bool.and_eq_true] at ho
      obtain ⟨⟨h1, h2⟩, h3⟩ := ho
      have ha : AVR X.G R (a.map ρ) (a.map ρ') := AVR.map a fun x hx => hρ x ((Array.all_eq_true_iff_forall_mem.1 h2) x hx)
      have hb : AVR X.G R (b.map ρ) (b.map ρ') := AVR.map b fun x hx => hρ x ((Array.all_eq_true_iff_forall_mem.1 h3) x hx)
      exact r_value (.pure (.func f ((hG f).2 h1) ha.1 ha.2 hb.1 hb.2))
    | _ => cases ho
  | makeSlice t l c =>
    rw [hop] at ho
    simp only [okOp, Bool.and_eq_true] at ho
    exact r_value (r_makeSlice (zsl ho.1) (hρ l ho.2.1) (hρ c ho.2.2))
  | slice t x lo hi mx =>
    rw [hop] at ho
    simp only [okOp, Bool.and_eq_true] at ho
    have ov : ∀ (y : Option Operand), y.all (okOpd fs) = true → OVR X.G R (y.map ρ) (y.map ρ') := by
      intro y hy
      cases y with
      | none => exact trivial
      | some y => exact hρ y (by simpa using hy)
    exact r_value (r_sliceAt (hρ x ho.1.1.1) t (ov _ ho.1.1.2) (ov _ ho.1.2) (ov _ ho.2))
  | fieldAddr s x f => rw [hop] at ho; exact r_value (r_fieldAt (hρ x ho) s f)
  | field t x f => rw [hop] at ho; exact r_value (r_field (hρ x ho) t f)
  | indexAddr t x i =>
    rw [hop] at ho
    simp only [okOp, Bool.and_eq_true] at ho
    exact r_value (r_indexAt (hρ x ho.1) (hρ i ho.2) t)
  | index t x i =>
    rw [hop] at ho
    simp only [okOp, Bool.and_eq_true] at ho
    exact r_value (r_index (hρ x ho.1) (hρ i ho.2) t)
  | extract x i => rw [hop] at ho; exact r_value (r_extract (hρ x ho) i)
  | call c => rw [hop] at ho; exact r_call hX F hf hρ c o.type ho
  | _ => rw [hop] at ho; cases ho
end

end Go.Proofs.Ytcgjppacnhmjlaa.Sim
end

section
set_option linter.unusedVariables false
set_option linter.unusedSimpArgs false
set_option linter.unusedSectionVars false
/-! Frames: a goroutine's step as an operation. -/
namespace Go.Proofs.Ytcgjppacnhmjlaa.Sim
open Go
set_option linter.unusedVariables false

abbrev Stk := Frame × List Frame
def afterOp (P : Program) (fr : Frame) (fs : List Frame) : Next → Sem Stk
  | .value v => pure (fr.finish v, fs)
  | .skip => pure (fr.finish undef, fs)
  | .enter f xs => pure (Frame.enter P f xs .normal, fr :: fs)
  | _ => stuck "no plain operation"
/-- A step of a plain frame that has plain frames behind it. -/
def stepS (P : Program) (fr : Frame) (fs : List Frame) : Sem Stk :=
  match fr.mode with
  | .panicking _ => stuck "panicking"
  | .returning =>
    match fs with
    | [] => stuck "nobody behind"
    | c :: rest =>
      match P.funcs[fr.fn]? with
      | some fn => (results fn fr.tmps).bind fun v => pure (c.finish v, rest)
      | none => stuck "no function"
  | .run =>
    match fr.todo with
    | [] => pure ({ fr with mode := .returning }, fs)
    | .code .ret :: _ => pure ({ fr with mode := .returning }, fs)
    | .code .skip :: k => pure ({ fr with todo := k }, fs)
    | .inBlock _ :: k => pure ({ fr with todo := k }, fs)
    | .code (.seq a b) :: k => pure ({ fr with todo := .code a :: .code b :: k }, fs)
    | .code (.cond c a b) :: k =>
      match fr.eval c with
      | .bool t => pure ({ fr with todo := .code (if t then a else b) :: k }, fs)
      | _ => stuck "cond"
    | .code (.block id b) :: k => pure ({ fr with todo := .code b :: .inBlock id :: k }, fs)
    | .code (.loop b) :: k => pure ({ fr with todo := .code b :: .inLoop b :: k }, fs)
    | .inLoop b :: k => pure ({ fr with todo := .code b :: .inLoop b :: k }, fs)
    | .code (.exit id) :: k =>
      match exitTo id k with
      | some k' => pure ({ fr with todo := k' }, fs)
      | none => stuck "exit"
    | .code (.region id ops draw) :: k =>
      if draw then (choose (.order fr.fn id)).bind fun t => pure ({ fr with todo := .inRegion ops (Region.schedule (P.follows .mixedOrders) ops t) :: k }, fs)
      else pure ({ fr with todo := .inRegion ops (List.range ops.size) :: k }, fs)
    | .inRegion _ [] :: k => pure ({ fr with todo := k }, fs)
    | .inRegion ops (i :: _) :: _ =>
      if ((ops[i]?).map (Region.wanted · (yielded ops fr.tmps))).getD false then
        match ops[i]? with
        | some o => (execOp fr.eval o).bind (afterOp P fr fs)
        | none => stuck "no operation"
      else pure (fr.finish undef, fs)
    | _ => stuck "no plain item"

/-- Neither a deferred call, nor a round of a range function. -/
structure Plain (fr : Frame) : Prop where
  kind : fr.kind = .normal
  round : fr.roundOf = none
  defers : fr.defers = []

def gor (fr : Frame) (cs : List Frame) : Goroutine := { frame := fr, callers := cs, status := .running, dying := none }

theorem runT_bind {α β : Type} (P : Program) (x : Sem α) (f : α → Sem β) (w : World) (es : Array Event) : (x.bind f).runT P w es = match x.runT P w es with | (.ok a w', es') => (f a).runT P w' es' | (.halt h w', es') => (.halt h w', es') := Sem.runT_bind' P x f w es
theorem seen_nil (P : Program) (fn : FuncId) : seen P fn #[] = #[] := by simp [seen]

section
variable {P : Program} {main : Bool} {fr fr1 : Frame} {fs fs1 : List Frame} {w w1 : World} {es : Array Event}

theorem step_ok (hp : Plain fr) (tl : List Frame) (h : (stepS P fr fs).runT P w #[] = (.ok (fr1, fs1) w1, es)) :
    stepG P main (gor fr (fs ++ tl)) w = .go (gor fr1 (fs1 ++ tl)) w1 (seen P fr.fn es) := by
  obtain ⟨fn, tmps, todo, defers, mode, kind, round⟩ := fr
  obtain ⟨h1, h2, h3⟩ := hp
  dsimp only at h1 h2 h3
  subst h1 h2 h3
  cases mode with
  | panicking c => cases h
  | returning =>
    unfold stepS at h
    dsimp only at h
    split at h
    · cases h
    · split at h
      · rename_i f hf
        rw [runT_bind] at h
        cases hr : (results f tmps).runT P w #[] with
        | mk r es2 =>
          rw [hr] at h
          cases r with
          | halt x w2 => cases h
          | ok v w2 =>
            cases h
            simp [stepG, unwind, gor, hf, hr, doReturn, GStep.after, -Sem.runT_eq]
      · cases h
  | run =>
    unfold stepS at h
    dsimp only at h
    split at h
    · cases h; simp [stepG, stepG.exec, gor, seen_nil]
    · cases h; simp [stepG, stepG.exec, gor, seen_nil]
    · cases h; simp [stepG, stepG.exec, gor, seen_nil]
    · cases h; simp [stepG, stepG.exec, gor, seen_nil]
    · cases h; simp [stepG, stepG.exec, gor, seen_nil]
    · split at h
      · rename_i hb
        cases h
        simp [stepG, stepG.exec, gor, seen_nil, hb]
      · cases h
    · cases h; simp [stepG, stepG.exec, gor, seen_nil]
    · cases h; simp [stepG, stepG.exec, gor, seen_nil]
    · cases h; simp [stepG, stepG.exec, gor, seen_nil]
    · split at h
      · rename_i hb
        cases h
        simp [stepG, stepG.exec, gor, seen_nil, hb]
      · cases h
    · split at h
      · rename_i hd
        simp only [choose, Sem.bind, Sem.runT, Question.forced, Bool.false_eq_true, if_false] at h
        cases h
        simp [stepG, stepG.exec, gor, seen_nil, hd, choose, Sem.run, Question.forced, Question.cut]
      · rename_i hd
        cases h
        simp [stepG, stepG.exec, gor, seen_nil, hd]
    · cases h; simp [stepG, stepG.exec, gor, seen_nil]
    · split at h
      · rename_i hw
        split at h
        · rename_i o ho
          have hw' := hw
          rw [ho] at hw'
          simp only [Option.map_some, Option.getD_some] at hw'
          rw [runT_bind] at h
          split at h
          · rename_i n w2 es2 hr
            cases n <;> first | (cases h; done) | skip
            all_goals
              cases h
              simp [stepG, stepG.exec, stepG.oper, stepG.apply, Frame.oper?, gor, hw', ho, hr, GStep.after, -Sem.runT_eq]
          · cases h
        · cases h
      · rename_i hw
        cases h
        simp [stepG, stepG.exec, gor, seen_nil, hw]
    · cases h

/-- A step that is dead: the run is over, or the frame panics. -/
def Bad (fr : Frame) (cs : List Frame) (s : GStep) : Prop := (∃ o w es, s = .ended o w es) ∨ ∃ ch w es, s = .go (gor (fr.raise ch) cs) w es

def NextOk : Next → Prop
  | .value _ | .skip | .enter _ _ => True
  | _ => False

theorem step_dead (hp : Plain fr) (cs : List Frame) {x : Halt} (hf : ∃ f, P.funcs[fr.fn]? = some f) (hr : fr.mode = .returning → fs ≠ []) (hm : ∀ ch, fr.mode ≠ .panicking ch) (h : (stepS P fr fs).runT P w #[] = (.halt x w1, es)) (hx : Dead x)
    (hn : ∀ o n w2 es2, fr.oper? = some o → (execOp fr.eval o).runT P w #[] = (.ok n w2, es2) → NextOk n)
    (ht : ∀ i k, fr.todo = i :: k → (∃ c, i = .code c ∧ match c with | .skip | .ret | .seq _ _ | .cond _ _ _ | .block _ _ | .loop _ | .exit _ | .region _ _ _ => True | _ => False) ∨ (∃ id, i = .inBlock id) ∨ (∃ b, i = .inLoop b) ∨ ∃ ops l, i = .inRegion ops l) :
    Bad fr cs (stepG P main (gor fr cs) w) := by
  obtain ⟨fn, tmps, todo, defers, mode, kind, round⟩ := fr
  obtain ⟨h1, h2, h3⟩ := hp
  dsimp only at h1 h2 h3 hr hm hf ht
  subst h1 h2 h3
  cases mode with
  | panicking c => exact absurd rfl (hm c)
  | returning =>
    obtain ⟨f, hf⟩ := hf
    unfold stepS at h
    dsimp only at h
    split at h
    · exact absurd rfl (hr rfl)
    · rw [hf] at h
      dsimp only at h
      rw [runT_bind] at h
      split at h
      · cases h
      · rename_i y w2 es2 hres
        left
        cases y <;> simp [stepG, unwind, gor, hf, hres, GStep.after, -Sem.runT_eq]
  | run =>
    have lost : ∀ (s : String) (pp : String), Bad ({ fn := fn, tmps := tmps, todo := todo, defers := [], mode := .run, kind := .normal, roundOf := none } : Frame) cs (.ended (.stuck s pp) w) := fun s pp => .inl ⟨_, _, _, rfl⟩
    unfold stepS at h
    dsimp only at h
    split at h
    · cases h
    · cases h
    · cases h
    · cases h
    · cases h
    · split at h
      · cases h
      · rename_i c a b k _ hb
        left
        cases hv : ({ fn := fn, tmps := tmps, todo := .code (.cond c a b) :: k, defers := [], mode := .run, kind := .normal, roundOf := none } : Frame).eval c with
        | bool t => exact absurd hv (hb t)
        | _ => simp [stepG, stepG.exec, gor, hv]
    · cases h
    · cases h
    · cases h
    · split at h
      · cases h
      · rename_i hb
        left
        simp [stepG, stepG.exec, gor, hb]
    · split at h
      · simp only [choose, Sem.bind, Sem.runT, Question.forced, Bool.false_eq_true, if_false] at h
        cases h
      · cases h
    · cases h
    · split at h
      · rename_i hw
        split at h
        · rename_i o ho
          have hw' := hw
          rw [ho] at hw'
          simp only [Option.map_some, Option.getD_some] at hw'
          rw [runT_bind] at h
          split at h
          · rename_i n w2 es2 hres
            have := hn o n w2 es2 (by simp [Frame.oper?, ho]) hres
            cases n <;> first | exact this.elim | cases h
          · rename_i y w2 es2 hres
            cases h
            cases x with
            | panic v => right; simp [stepG, stepG.exec, stepG.oper, stepG.apply, Frame.oper?, gor, hw', ho, hres, GStep.after, Frame.raise, -Sem.runT_eq]
            | stuck v => left; simp [stepG, stepG.exec, stepG.oper, stepG.apply, Frame.oper?, gor, hw', ho, hres, GStep.after, -Sem.runT_eq]
            | unsupported u =>
              left
              cases u <;> first | exact hx.elim | simp [stepG, stepG.exec, stepG.oper, stepG.apply, Frame.oper?, gor, hw', ho, hres, GStep.after, -Sem.runT_eq]
            | _ => exact hx.elim
        · rename_i ho
          rw [ho] at hw; cases hw
      · cases h
    · rename_i k1 k2 k3 k4 k5 k6 k7 k8 k9 k10 k11 k12 k13
      exfalso
      cases todo with
      | nil => exact k1 rfl
      | cons i k =>
        rcases ht i k rfl with ⟨c, rfl, hc⟩ | ⟨id, rfl⟩ | ⟨b, rfl⟩ | ⟨ops, l, rfl⟩
        · cases c <;> first | exact hc.elim | exact k1 rfl | exact k1 _ rfl | exact k1 _ _ rfl | exact k1 _ _ _ rfl | exact k1 _ _ _ _ rfl | exact k1 _ _ _ _ _ rfl | exact k2 rfl | exact k2 _ rfl | exact k2 _ _ rfl | exact k2 _ _ _ rfl | exact k2 _ _ _ _ rfl | exact k2 _ _ _ _ _ rfl | exact k3 rfl | exact k3 _ rfl | exact k3 _ _ rfl | exact k3 _ _ _ rfl | exact k3 _ _ _ _ rfl | exact k3 _ _ _ _ _ rfl | exact k4 rfl | exact k4 _ rfl | exact k4 _ _ rfl | exact k4 _ _ _ rfl | exact k4 _ _ _ _ rfl | exact k4 _ _ _ _ _ rfl | exact k5 rfl | exact k5 _ rfl | exact k5 _ _ rfl | exact k5 _ _ _ rfl | exact k5 _ _ _ _ rfl | exact k5 _ _ _ _ _ rfl | exact k6 rfl | exact k6 _ rfl | exact k6 _ _ rfl | exact k6 _ _ _ rfl | exact k6 _ _ _ _ rfl | exact k6 _ _ _ _ _ rfl | exact k7 rfl | exact k7 _ rfl | exact k7 _ _ rfl | exact k7 _ _ _ rfl | exact k7 _ _ _ _ rfl | exact k7 _ _ _ _ _ rfl | exact k8 rfl | exact k8 _ rfl | exact k8 _ _ rfl | exact k8 _ _ _ rfl | exact k8 _ _ _ _ rfl | exact k8 _ _ _ _ _ rfl | exact k9 rfl | exact k9 _ rfl | exact k9 _ _ rfl | exact k9 _ _ _ rfl | exact k9 _ _ _ _ rfl | exact k9 _ _ _ _ _ rfl | exact k10 rfl | exact k10 _ rfl | exact k10 _ _ rfl | exact k10 _ _ _ rfl | exact k10 _ _ _ _ rfl | exact k10 _ _ _ _ _ rfl | exact k11 rfl | exact k11 _ rfl | exact k11 _ _ rfl | exact k11 _ _ _ rfl | exact k11 _ _ _ _ rfl | exact k11 _ _ _ _ _ rfl | exact k12 rfl | exact k12 _ rfl | exact k12 _ _ rfl | exact k12 _ _ _ rfl | exact k12 _ _ _ _ rfl | exact k12 _ _ _ _ _ rfl | exact k13 rfl | exact k13 _ rfl | exact k13 _ _ rfl | exact k13 _ _ _ rfl | exact k13 _ _ _ _ rfl | exact k13 _ _ _ _ _ rfl
        · first | exact k1 rfl | exact k1 _ rfl | exact k1 _ _ rfl | exact k1 _ _ _ rfl | exact k1 _ _ _ _ rfl | exact k1 _ _ _ _ _ rfl | exact k2 rfl | exact k2 _ rfl | exact k2 _ _ rfl | exact k2 _ _ _ rfl | exact k2 _ _ _ _ rfl | exact k2 _ _ _ _ _ rfl | exact k3 rfl | exact k3 _ rfl | exact k3 _ _ rfl | exact k3 _ _ _ rfl | exact k3 _ _ _ _ rfl | exact k3 _ _ _ _ _ rfl | exact k4 rfl | exact k4 _ rfl | exact k4 _ _ rfl | exact k4 _ _ _ rfl | exact k4 _ _ _ _ rfl | exact k4 _ _ _ _ _ rfl | exact k5 rfl | exact k5 _ rfl | exact k5 _ _ rfl | exact k5 _ _ _ rfl | exact k5 _ _ _ _ rfl | exact k5 _ _ _ _ _ rfl | exact k6 rfl | exact k6 _ rfl | exact k6 _ _ rfl | exact k6 _ _ _ rfl | exact k6 _ _ _ _ rfl | exact k6 _ _ _ _ _ rfl | exact k7 rfl | exact k7 _ rfl | exact k7 _ _ rfl | exact k7 _ _ _ rfl | exact k7 _ _ _ _ rfl | exact k7 _ _ _ _ _ rfl | exact k8 rfl | exact k8 _ rfl | exact k8 _ _ rfl | exact k8 _ _ _ rfl | exact k8 _ _ _ _ rfl | exact k8 _ _ _ _ _ rfl | exact k9 rfl | exact k9 _ rfl | exact k9 _ _ rfl | exact k9 _ _ _ rfl | exact k9 _ _ _ _ rfl | exact k9 _ _ _ _ _ rfl | exact k10 rfl | exact k10 _ rfl | exact k10 _ _ rfl | exact k10 _ _ _ rfl | exact k10 _ _ _ _ rfl | exact k10 _ _ _ _ _ rfl | exact k11 rfl | exact k11 _ rfl | exact k11 _ _ rfl | exact k11 _ _ _ rfl | exact k11 _ _ _ _ rfl | exact k11 _ _ _ _ _ rfl | exact k12 rfl | exact k12 _ rfl | exact k12 _ _ rfl | exact k12 _ _ _ rfl | exact k12 _ _ _ _ rfl | exact k12 _ _ _ _ _ rfl | exact k13 rfl | exact k13 _ rfl | exact k13 _ _ rfl | exact k13 _ _ _ rfl | exact k13 _ _ _ _ rfl | exact k13 _ _ _ _ _ rfl
        · first | exact k1 rfl | exact k1 _ rfl | exact k1 _ _ rfl | exact k1 _ _ _ rfl | exact k1 _ _ _ _ rfl | exact k1 _ _ _ _ _ rfl | exact k2 rfl | exact k2 _ rfl | exact k2 _ _ rfl | exact k2 _ _ _ rfl | exact k2 _ _ _ _ rfl | exact k2 _ _ _ _ _ rfl | exact k3 rfl | exact k3 _ rfl | exact k3 _ _ rfl | exact k3 _ _ _ rfl | exact k3 _ _ _ _ rfl | exact k3 _ _ _ _ _ rfl | exact k4 rfl | exact k4 _ rfl | exact k4 _ _ rfl | exact k4 _ _ _ rfl | exact k4 _ _ _ _ rfl | exact k4 _ _ _ _ _ rfl | exact k5 rfl | exact k5 _ rfl | exact k5 _ _ rfl | exact k5 _ _ _ rfl | exact k5 _ _ _ _ rfl | exact k5 _ _ _ _ _ rfl | exact k6 rfl | exact k6 _ rfl | exact k6 _ _ rfl | exact k6 _ _ _ rfl | exact k6 _ _ _ _ rfl | exact k6 _ _ _ _ _ rfl | exact k7 rfl | exact k7 _ rfl | exact k7 _ _ rfl | exact k7 _ _ _ rfl | exact k7 _ _ _ _ rfl | exact k7 _ _ _ _ _ rfl | exact k8 rfl | exact k8 _ rfl | exact k8 _ _ rfl | exact k8 _ _ _ rfl | exact k8 _ _ _ _ rfl | exact k8 _ _ _ _ _ rfl | exact k9 rfl | exact k9 _ rfl | exact k9 _ _ rfl | exact k9 _ _ _ rfl | exact k9 _ _ _ _ rfl | exact k9 _ _ _ _ _ rfl | exact k10 rfl | exact k10 _ rfl | exact k10 _ _ rfl | exact k10 _ _ _ rfl | exact k10 _ _ _ _ rfl | exact k10 _ _ _ _ _ rfl | exact k11 rfl | exact k11 _ rfl | exact k11 _ _ rfl | exact k11 _ _ _ rfl | exact k11 _ _ _ _ rfl | exact k11 _ _ _ _ _ rfl | exact k12 rfl | exact k12 _ rfl | exact k12 _ _ rfl | exact k12 _ _ _ rfl | exact k12 _ _ _ _ rfl | exact k12 _ _ _ _ _ rfl | exact k13 rfl | exact k13 _ rfl | exact k13 _ _ rfl | exact k13 _ _ _ rfl | exact k13 _ _ _ _ rfl | exact k13 _ _ _ _ _ rfl
        · cases l <;> first | exact k1 rfl | exact k1 _ rfl | exact k1 _ _ rfl | exact k1 _ _ _ rfl | exact k1 _ _ _ _ rfl | exact k1 _ _ _ _ _ rfl | exact k2 rfl | exact k2 _ rfl | exact k2 _ _ rfl | exact k2 _ _ _ rfl | exact k2 _ _ _ _ rfl | exact k2 _ _ _ _ _ rfl | exact k3 rfl | exact k3 _ rfl | exact k3 _ _ rfl | exact k3 _ _ _ rfl | exact k3 _ _ _ _ rfl | exact k3 _ _ _ _ _ rfl | exact k4 rfl | exact k4 _ rfl | exact k4 _ _ rfl | exact k4 _ _ _ rfl | exact k4 _ _ _ _ rfl | exact k4 _ _ _ _ _ rfl | exact k5 rfl | exact k5 _ rfl | exact k5 _ _ rfl | exact k5 _ _ _ rfl | exact k5 _ _ _ _ rfl | exact k5 _ _ _ _ _ rfl | exact k6 rfl | exact k6 _ rfl | exact k6 _ _ rfl | exact k6 _ _ _ rfl | exact k6 _ _ _ _ rfl | exact k6 _ _ _ _ _ rfl | exact k7 rfl | exact k7 _ rfl | exact k7 _ _ rfl | exact k7 _ _ _ rfl | exact k7 _ _ _ _ rfl | exact k7 _ _ _ _ _ rfl | exact k8 rfl | exact k8 _ rfl | exact k8 _ _ rfl | exact k8 _ _ _ rfl | exact k8 _ _ _ _ rfl | exact k8 _ _ _ _ _ rfl | exact k9 rfl | exact k9 _ rfl | exact k9 _ _ rfl | exact k9 _ _ _ rfl | exact k9 _ _ _ _ rfl | exact k9 _ _ _ _ _ rfl | exact k10 rfl | exact k10 _ rfl | exact k10 _ _ rfl | exact k10 _ _ _ rfl | exact k10 _ _ _ _ rfl | exact k10 _ _ _ _ _ rfl | exact k11 rfl | exact k11 _ rfl | exact k11 _ _ rfl | exact k11 _ _ _ rfl | exact k11 _ _ _ _ rfl | exact k11 _ _ _ _ _ rfl | exact k12 rfl | exact k12 _ rfl | exact k12 _ _ rfl | exact k12 _ _ _ rfl | exact k12 _ _ _ _ rfl | exact k12 _ _ _ _ _ rfl | exact k13 rfl | exact k13 _ rfl | exact k13 _ _ rfl | exact k13 _ _ _ rfl | exact k13 _ _ _ _ rfl | exact k13 _ _ _ _ _ rfl
end

end Go.Proofs.Ytcgjppacnhmjlaa.Sim
end

section
set_option linter.unusedVariables false
set_option linter.unusedSimpArgs false
set_option linter.unusedSectionVars false
/-! Frames over the two memories: a step does the same. -/
namespace Go.Proofs.Ytcgjppacnhmjlaa.Sim
open Go
set_option linter.unusedVariables false

def okItem (P : Program) (fs : List Nat) (fz : Bool) (vs : List Nat) : Item → Bool
  | .code c => okCode P fs fz vs c
  | .inBlock _ => true
  | .inLoop b => okCode P fs fz vs b
  | .inRegion ops _ => ops.all fun o => okOp P fs fz vs o.op
  | _ => false

/-- What is asked of the program. -/
structure Good (X : Ctx) (P : Program) (fs : List Nat) (fz : Bool) (vs : List Nat) : Prop where
  hX : X = ctx P fs fz vs
  F : Fns X
  code : ∀ f fn c, X.G f → X.P.funcs[f]? = some fn → fn.body = some c → okCode P fs fz vs c = true

structure FrameR (X : Ctx) (P : Program) (fs : List Nat) (fz : Bool) (vs : List Nat) (R : BR) (fr fr' : Frame) : Prop where
  fn : fr'.fn = fr.fn
  g : ∃ f, X.P.funcs[fr.fn]? = some f
  todo : fr'.todo = fr.todo
  items : ∀ i ∈ fr.todo, okItem P fs fz vs i = true
  p : Plain fr
  p' : Plain fr'
  mode : fr'.mode = fr.mode
  nm : fr.mode = .run ∨ fr.mode = .returning
  tmps : AVR X.G R fr.tmps fr'.tmps

inductive FsR (X : Ctx) (P : Program) (fs : List Nat) (fz : Bool) (vs : List Nat) (R : BR) : List Frame → List Frame → Prop
  | nil : FsR X P fs fz vs R [] []
  | cons {fr fr' : Frame} {l l' : List Frame} : FrameR X P fs fz vs R fr fr' → fr.mode = .run → FsR X P fs fz vs R l l' → FsR X P fs fz vs R (fr :: l) (fr' :: l')

def StkR (X : Ctx) (P : Program) (fs : List Nat) (fz : Bool) (vs : List Nat) (R : BR) (s s' : Stk) : Prop := FrameR X P fs fz vs R s.1 s'.1 ∧ FsR X P fs fz vs R s.2 s'.2

section
variable {X : Ctx} {P : Program} {fs vs : List Nat} {fz : Bool} {R R' : BR} {fr fr' : Frame} {l l' : List Frame} {v v' : Value}

theorem FrameR.mono (h : FrameR X P fs fz vs R fr fr') (hs : BR.Sub R R') : FrameR X P fs fz vs R' fr fr' := ⟨h.fn, h.g, h.todo, h.items, h.p, h.p', h.mode, h.nm, h.tmps.mono hs⟩
theorem FsR.mono (h : FsR X P fs fz vs R l l') (hs : BR.Sub R R') : FsR X P fs fz vs R' l l' := by
  induction h with
  | nil => exact .nil
  | cons h1 h2 _ ih => exact .cons (h1.mono hs) h2 ih

theorem FrameR.with_todo (h : FrameR X P fs fz vs R fr fr') {k : List Item} (hk : ∀ i ∈ k, okItem P fs fz vs i = true) : FrameR X P fs fz vs R { fr with todo := k } { fr' with todo := k } :=
  ⟨h.fn, h.g, rfl, hk, ⟨h.p.kind, h.p.round, h.p.defers⟩, ⟨h.p'.kind, h.p'.round, h.p'.defers⟩, h.mode, h.nm, h.tmps⟩
theorem FrameR.ret (h : FrameR X P fs fz vs R fr fr') : FrameR X P fs fz vs R { fr with mode := .returning } { fr' with mode := .returning } :=
  ⟨h.fn, h.g, h.todo, h.items, ⟨h.p.kind, h.p.round, h.p.defers⟩, ⟨h.p'.kind, h.p'.round, h.p'.defers⟩, rfl, .inr rfl, h.tmps⟩
theorem FrameR.finish (h : FrameR X P fs fz vs R fr fr') (hv : VR X.G R v v') : FrameR X P fs fz vs R (fr.finish v) (fr'.finish v') ∧ (fr.finish v).mode = fr.mode := by
  obtain ⟨fn, tmps, todo, defers, mode, kind, round⟩ := fr
  obtain ⟨fn', tmps', todo', defers', mode', kind', round'⟩ := fr'
  have ht := h.todo
  have hi := h.items
  dsimp only at ht hi
  subst ht
  unfold Frame.finish
  dsimp only
  cases todo' with
  | nil => exact ⟨h, rfl⟩
  | cons i k =>
    have h0 := hi i (by simp)
    have hk : ∀ i ∈ k, okItem P fs fz vs i = true := fun i hm => hi i (by simp [hm])
    cases i with
    | code c => exact ⟨h, rfl⟩
    | inBlock id => exact ⟨h, rfl⟩
    | inLoop b => exact ⟨h, rfl⟩
    | inRegion ops todo =>
      cases todo with
      | nil => exact ⟨h, rfl⟩
      | cons j rest =>
        refine ⟨⟨h.fn, h.g, rfl, fun x hx => ?_, ⟨h.p.kind, h.p.round, h.p.defers⟩, ⟨h.p'.kind, h.p'.round, h.p'.defers⟩, h.mode, h.nm, ?_⟩, rfl⟩
        · rcases List.mem_cons.1 hx with rfl | hx
          · exact h0
          · exact hk x hx
        · dsimp only
          cases (ops[j]?).bind (·.dst) with
          | none => exact h.tmps
          | some d => exact h.tmps.set d hv
    | inScope _ => cases h0
    | inRangeFunc _ => cases h0
    | endRangeFunc _ => cases h0
    | beginRound => cases h0
    | call _ _ _ _ => cases h0
    | extern _ _ => cases h0

theorem FrameR.eval (G : Good X P fs fz vs) (h : FrameR X P fs fz vs R fr fr') (x : Operand) (hx : okOpd fs x = true) : VR X.G R (fr.eval x) (fr'.eval x) := by
  cases x with
  | tmp t => exact h.tmps.getD t .undef
  | const v => exact okVal_vr hx
  | global g => cases hx
  | func f => exact .func f (by rw [G.hX]; exact hx) rfl (fun i v v' e => by simp at e) rfl fun i v v' e => by simp at e

theorem yielded_eq {ts ts' : Array Value} (h : AVR X.G R ts ts') (ops : Array Oper) (j : Nat) : yielded ops ts' j = yielded ops ts j := by
  unfold yielded
  cases hd : (ops[j]?).bind (·.dst) with
  | none => rfl
  | some d =>
    simp only [Option.bind_some]
    cases hv : ts[d]? with
    | none => rw [h.none hv]
    | some v =>
      obtain ⟨v', e, hr⟩ := h.get hv
      rw [e]
      cases hr <;> rfl

theorem okExit {id : Nat} : ∀ {k k' : List Item}, exitTo id k = some k' → (∀ i ∈ k, okItem P fs fz vs i = true) → ∀ i ∈ k', okItem P fs fz vs i = true
  | [], _, h, _ => by cases h
  | i :: k, k', h, hk => by
    have hk' : ∀ i ∈ k, okItem P fs fz vs i = true := fun i hm => hk i (by simp [hm])
    unfold exitTo at h
    split at h
    · rename_i e
      cases e
      split at h
      · cases h; exact hk'
      · exact okExit h hk'
    · rename_i e; cases e; exact okExit h hk'
    · rename_i e; cases e

theorem FrameR.enter (G : Good X P fs fz vs) {f : FuncId} (hg : X.G f) {xs xs' : Array Value} (h : AVR X.G R xs xs') (hb : ∃ fn c, X.P.funcs[f]? = some fn ∧ fn.body = some c) : FrameR X P fs fz vs R (Frame.enter X.P f xs .normal) (Frame.enter X.P f xs' .normal) := by
  obtain ⟨fn, c, h1, h2⟩ := hb
  refine ⟨rfl, ⟨fn, h1⟩, rfl, fun i hi => ?_, ⟨rfl, rfl, rfl⟩, ⟨rfl, rfl, rfl⟩, rfl, .inl rfl, ?_⟩
  · simp only [Frame.enter, h1, Option.bind_some, h2, Option.getD_some, List.mem_singleton] at hi
    subst hi
    exact G.code f fn c hg h1 h2
  · simp only [Frame.enter]
    rw [h.1]
    exact h.append (AVR.replicate _ .undef)

/-- ████ A STEP DOES THE SAME. ████ -/
theorem r_stepS (G : Good X P fs fz vs) (hf : BR.Fine X.P.globals.size R) (h : FrameR X P fs fz vs R fr fr') (hl : FsR X P fs fz vs R l l') : SemR X (StkR X P fs fz vs) R (stepS X.P fr l) (stepS X.P fr' l') := by
  obtain ⟨fn, tmps, todo, defers, mode, kind, round⟩ := fr
  obtain ⟨fn', tmps', todo', defers', mode', kind', round'⟩ := fr'
  have hm := h.mode
  have ht := h.todo
  have hi := h.items
  have hfn := h.fn
  have hnm := h.nm
  dsimp only at hm ht hi hfn hnm
  subst hm ht hfn
  rcases hnm with rfl | rfl
  · unfold stepS
    dsimp only
    cases todo' with
    | nil => exact .pure ⟨h.ret, hl⟩
    | cons i k =>
      have h0 := hi i (by simp)
      have hk : ∀ i ∈ k, okItem P fs fz vs i = true := fun i hm => hi i (by simp [hm])
      have two : ∀ {a b : Item}, okItem P fs fz vs a = true → okItem P fs fz vs b = true → ∀ i ∈ a :: b :: k, okItem P fs fz vs i = true := by
        intro a b ha hb i hi
        simp only [List.mem_cons] at hi
        rcases hi with rfl | rfl | hi
        · exact ha
        · exact hb
        · exact hk i hi
      have one : ∀ {a : Item}, okItem P fs fz vs a = true → ∀ i ∈ a :: k, okItem P fs fz vs i = true := by
        intro a ha i hi
        rcases List.mem_cons.1 hi with rfl | hi
        · exact ha
        · exact hk i hi
      cases i with
      | code c =>
        cases c with
        | skip => exact .pure ⟨h.with_todo hk, hl⟩
        | ret => exact .pure ⟨h.ret, hl⟩
        | seq a b =>
          simp only [okItem, okCode, Bool.and_eq_true] at h0
          exact .pure ⟨h.with_todo (two (a := .code a) (b := .code b) h0.1 h0.2), hl⟩
        | cond c a b =>
          simp only [okItem, okCode, Bool.and_eq_true] at h0
          have hv := h.eval G c h0.1.1
          dsimp only
          revert hv
          generalize Frame.eval _ c = v
          generalize Frame.eval _ c = v'
          intro hv
          cases hv with
          | bool t =>
            refine .pure ⟨h.with_todo (one (a := .code (if t then a else b)) ?_), hl⟩
            cases t
            · exact h0.2
            · exact h0.1.2
          | _ => exact r_stuck _ _
        | block id b => exact .pure ⟨h.with_todo (two (a := .code b) (b := .inBlock id) h0 rfl), hl⟩
        | loop b => exact .pure ⟨h.with_todo (two (a := .code b) (b := .inLoop b) h0 h0), hl⟩
        | exit id =>
          dsimp only
          cases he : exitTo id k with
          | none => exact r_stuck _ _
          | some k' => exact .pure ⟨h.with_todo (okExit he hk), hl⟩
        | region id ops draw =>
          cases draw with
          | true => exact SemR.choose fun t => .pure ⟨h.with_todo (one (a := .inRegion ops _) h0), hl⟩
          | false => exact .pure ⟨h.with_todo (one (a := .inRegion ops _) h0), hl⟩
        | _ => cases h0
      | inBlock id => exact .pure ⟨h.with_todo hk, hl⟩
      | inLoop b => exact .pure ⟨h.with_todo (two (a := .code b) (b := .inLoop b) h0 h0), hl⟩
      | inRegion ops todo =>
        cases todo with
        | nil => exact .pure ⟨h.with_todo hk, hl⟩
        | cons j rest =>
          dsimp only
          rw [show yielded ops tmps' = yielded ops tmps from funext fun j => yielded_eq h.tmps ops j]
          cases ho : ops[j]? with
          | none => exact .pure ⟨(h.finish .undef).1, hl⟩
          | some o =>
            split
            · dsimp only
              have hok : okOp P fs fz vs o.op = true := (Array.all_eq_true_iff_forall_mem.1 h0) o (Array.mem_of_getElem? ho)
              refine (r_execOp G.hX G.F hf (fun x hx => h.eval G x hx) (fun v => ⟨rfl, rfl⟩) o hok).bind fun R1 h1 n n' hn => ?_
              cases hn with
              | value hv => exact .pure ⟨((h.mono h1.sub).finish hv).1, hl.mono h1.sub⟩
              | skip => exact .pure ⟨((h.mono h1.sub).finish .undef).1, hl.mono h1.sub⟩
              | enter hg ha hb => exact .pure ⟨FrameR.enter G hg ha hb, .cons (h.mono h1.sub) rfl (hl.mono h1.sub)⟩
            · exact .pure ⟨(h.finish .undef).1, hl⟩
      | _ => cases h0
  · unfold stepS
    dsimp only
    cases hl with
    | nil => exact r_stuck _ _
    | cons hc hcm hl =>
      dsimp only
      obtain ⟨f, hf⟩ := h.g
      dsimp only at hf
      rw [hf]
      exact (r_results f h.tmps).bind fun R1 h1 v v' hv => .pure ⟨((hc.mono h1.sub).finish hv).1, hl.mono h1.sub⟩
end

end Go.Proofs.Ytcgjppacnhmjlaa.Sim
end
