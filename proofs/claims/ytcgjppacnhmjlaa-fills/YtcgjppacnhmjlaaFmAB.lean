/- Own texts: SimC, SimD, SimE, SimF. -/
import Derived.Test.YtcgjppacnhmjlaaFmAA
import Derived.Laws.Sem

section
set_option linter.unusedVariables false
set_option linter.unusedSimpArgs false
set_option linter.unusedSectionVars false
/-! The operations that the program is made of do the same over the two memories. -/
namespace Go.Proofs.Ytcgjppacnhmjlaa.Sim
open Go
set_option linter.unusedVariables false

/-- The type's zero is a value that is spoken of. -/
def ZOk (X : Ctx) (t : TypeId) : Prop := ∀ i v, X.P.info? t = some i → i.zero = some v → ∀ R, VR X.G R v v

abbrev EqR {α : Type} : BR → α → α → Prop := fun _ a b => a = b
abbrev VX (X : Ctx) : BR → Value → Value → Prop := VR X.G

section
variable {X : Ctx} {R : BR} {α β γ δ : Type}

theorem SemR.imp {A B : BR → α → β → Prop} {s : Sem α} {s' : Sem β} (h : SemR X A R s s') (hi : ∀ R a b, A R a b → B R a b) : SemR X B R s s' := by
  induction h with
  | pure h => exact .pure (hi _ _ _ h)
  | load ha _ ih => exact .load ha ih
  | store ha hv _ ih => exact .store ha hv ih
  | new hc _ ih => exact .new hc ih
  | newN hc _ ih => exact .newN hc ih
  | newV hz hc _ ih => exact .newV hz hc ih
  | getN hr _ _ ih ih2 => exact .getN hr ih ih2
  | shape hr _ ih => exact .shape hr ih
  | ustr ha hu _ ih => exact .ustr ha hu ih
  | frozen hz ha _ ih => exact .frozen hz ha ih
  | choose _ ih => exact .choose ih
  | program _ ih => exact .program ih
  | mark hm _ ih => exact .mark hm ih
  | dead hd => exact .dead hd

/-- A bind whose first half gives the same on both sides. -/
theorem SemR.bindE {B : BR → γ → δ → Prop} {s s' : Sem α} {f : α → Sem γ} {f' : α → Sem δ} (h : SemR X EqR R s s') (k : ∀ R', BR.Ext X.P.globals.size R R' → ∀ a, SemR X B R' (f a) (f' a)) : SemR X B R (s.bind f) (s'.bind f') :=
  h.bind fun R' hs a b e => by cases e; exact k R' hs a
theorem r_stuck {A : BR → α → β → Prop} (x : String) (s' : Sem β) : SemR X A R (stuck x) s' := .dead (.stuck x)
theorem r_program {s s' : Program → Sem α} {A : BR → α → α → Prop} (h : SemR X A R (s X.P) (s' X.P)) : SemR X A R (program.bind s) (program.bind s') := .program h

theorem r_underlying (t : TypeId) : SemR X EqR R (underlying t) (underlying t) := by
  refine r_program ?_
  split
  · exact .pure rfl
  · exact r_stuck _ _
theorem r_underlyingI (t : TypeId) : SemR X (fun _ a b => a = b ∧ X.P.underlying t = some a) R (underlying t) (underlying t) := by
  refine r_program ?_
  split
  · rename_i h; exact .pure ⟨rfl, h⟩
  · exact r_stuck _ _
theorem r_typeInfo (t : TypeId) : SemR X (fun _ a b => a = b ∧ X.P.info? t = some a) R (typeInfo t) (typeInfo t) := by
  refine SemR.program ?_
  simp only [Sem.bind]
  split
  · rename_i h; exact .pure ⟨rfl, h⟩
  · exact r_stuck _ _
theorem r_sizeOf (t : TypeId) : SemR X EqR R (sizeOf t) (sizeOf t) := (r_typeInfo t).bind fun R' hs a b h => by cases h.1; exact .pure rfl
theorem r_isAgg (t : TypeId) : SemR X EqR R (isAgg t) (isAgg t) := by
  refine SemR.bindE (r_underlying t) fun R' hs d => ?_
  split <;> exact .pure rfl
theorem r_elemOf (t : TypeId) : SemR X EqR R (elemOf t) (elemOf t) := by
  refine SemR.bindE (r_underlying t) fun R' hs d => ?_
  split
  · exact .pure rfl
  · exact r_stuck _ _
theorem r_elemOfI (t : TypeId) : SemR X (fun _ a b => a = b ∧ X.P.underlying t = some (.pointer a)) R (elemOf t) (elemOf t) := by
  refine (r_underlyingI t).bind fun R' hs d d' hd => ?_
  obtain ⟨rfl, hd⟩ := hd
  split
  · exact .pure ⟨rfl, hd⟩
  · exact r_stuck _ _
theorem r_zero {t : TypeId} (T : ZOk X t) : SemR X (VX X) R (zeroValue t) (zeroValue t) := by
  refine (r_typeInfo t).bind fun R' hs a b h => ?_
  obtain ⟨rfl, h⟩ := h
  split
  · rename_i v e; exact .pure (T a v h e R')
  · exact .dead (.unsupported _ (by simp))

theorem r_load {a a' : Addr} (ha : AR R a a') (m : Mode := .plain) : SemR X (VX X) R (load a m) (load a' m) := .load ha fun _ _ hv => .pure hv
theorem r_store {a a' : Addr} {v v' : Value} (ha : AR R a a') (hv : VR X.G R v v') (m : Mode := .plain) : SemR X EqR R (store a v m) (store a' v' m) := .store ha hv (.pure rfl)

theorem r_loadCellsFrom {a a' : Addr} : ∀ (n i : Nat) {R : BR} {acc acc' : Array Value}, AR R a a' → AVR X.G R acc acc' → SemR X (AVR X.G) R (loadCellsFrom a i n acc) (loadCellsFrom a' i n acc')
  | 0, _, _, _, _, _, hc => .pure hc
  | n + 1, i, _, _, _, ha, hc => (r_load (ha.add i)).bind fun _ hs _ _ hv => r_loadCellsFrom n (i + 1) (ha.mono hs.sub) ((hc.mono hs.sub).push hv)
theorem r_loadCells {a a' : Addr} (ha : AR R a a') (n : Nat) : SemR X (AVR X.G) R (loadCells a n) (loadCells a' n) := r_loadCellsFrom n 0 ha .nil

theorem AVR.list {G : FuncId → Prop} {xs xs' : Array Value} (h : AVR G R xs xs') : xs.toList.length = xs'.toList.length ∧ ∀ (i : Nat) v v', xs.toList[i]? = some v → xs'.toList[i]? = some v' → VR G R v v' :=
  ⟨by simpa using h.1, fun i v v' a b => h.2 i v v' (by simpa using a) (by simpa using b)⟩
theorem r_storeCells {a a' : Addr} : ∀ (vs vs' : List Value) (i : Nat) {R : BR}, AR R a a' → vs.length = vs'.length → (∀ (i : Nat) v v', vs[i]? = some v → vs'[i]? = some v' → VR X.G R v v') → SemR X EqR R (storeCells a vs i) (storeCells a' vs' i)
  | [], [], _, _, _, _, _ => .pure rfl
  | v :: vs, v' :: vs', i, _, ha, hl, hv =>
    SemR.bindE (r_store (ha.add i) (hv 0 v v' rfl rfl)) fun R' hs _ => r_storeCells vs vs' (i + 1) (ha.mono hs.sub) (by simpa using hl) fun j x x' h h' => (hv (j + 1) x x' h h').mono hs.sub
  | [], _ :: _, _, _, _, h, _ => by simp at h
  | _ :: _, [], _, _, _, h, _ => by simp at h
theorem r_loadVar {a a' : Addr} (ha : AR R a a') (t : TypeId) : SemR X (VX X) R (loadVar t a) (loadVar t a') := by
  refine SemR.bindE (r_isAgg t) fun R1 h1 b => ?_
  cases b with
  | true =>
    refine SemR.bindE (r_sizeOf t) fun R2 h2 n => ?_
    refine SemR.bind (r_loadCells ((ha.mono h1.sub).mono h2.sub) n) fun R3 h3 c c' hc => ?_
    exact .pure hc.agg
  | false => exact r_load (ha.mono h1.sub)
theorem r_storeVar {a a' : Addr} {v v' : Value} (ha : AR R a a') (hv : VR X.G R v v') (t : TypeId) : SemR X EqR R (storeVar t a v) (storeVar t a' v') := by
  refine SemR.bindE (r_sizeOf t) fun R1 h1 n => ?_
  rw [hv.cells.1]
  have hl := (hv.cells.mono h1.sub).list
  split
  · refine SemR.dead (Halts.bind (Halts.stuck _) _)
  · exact r_storeCells _ _ 0 (ha.mono h1.sub) hl.1 hl.2

/-! ### places -/
theorem r_newRow {c c' : Array Value} (hc : AVR X.G R c c') (e : TypeId) : SemR X AR R (newRow e c) (newRow e c') := .new hc fun _ _ _ _ _ _ => .pure ⟨.inr ⟨rfl, rfl⟩, rfl, rfl⟩
theorem r_newVar {v v' : Value} (hv : VR X.G R v v') (t : TypeId) : SemR X AR R (newVar t v) (newVar t v') := r_newRow hv.cells t
theorem r_sureAddr {v v' : Value} (hv : VR X.G R v v') : SemR X AR R (Instr.sureAddr v) (Instr.sureAddr v') := by
  cases hv with
  | ptr h => exact .pure h
  | _ => exact r_stuck _ _
theorem halts_rt {P : Program} (e : RuntimeError) (h : match e with | .bounds .. | .error _ | .plain _ | .nilDeref => True | _ => False) : Halts P (runtimePanic e : Sem α) := by
  intro w
  cases e <;> first | exact ⟨_, w, rfl, trivial⟩ | exact h.elim
theorem r_rt {A : BR → α → β → Prop} (e : RuntimeError) (s' : Sem β) (h : match e with | .bounds .. | .error _ | .plain _ | .nilDeref => True | _ => False) : SemR X A R (runtimePanic e) s' := .dead (halts_rt e h)
theorem halts_bounds {P : Program} (k : IntKind) (x y : Int) (c : BoundsCode) : Halts P (boundsPanic k x y c : Sem α) := by
  intro w
  unfold boundsPanic
  by_cases hk : (k != .u64 && decide (0 ≤ x) && decide (x ≤ 31)) = true
  · rw [if_pos hk]
    exact ⟨_, _, rfl, trivial⟩
  · rw [if_neg hk]
    exact ⟨_, _, rfl, trivial⟩
theorem Halts.ite {P : Program} {c : Prop} [Decidable c] {s t : Sem α} (h : Halts P s) (h' : Halts P t) : Halts P (if c then s else t) := by split <;> assumption
theorem r_bounds {A : BR → α → β → Prop} (k : IntKind) (x y : Int) (c : BoundsCode) (s' : Sem β) : SemR X A R (boundsPanic k x y c) s' := .dead (halts_bounds k x y c)
theorem r_asAddr {v v' : Value} (hv : VR X.G R v v') : SemR X AR R (asAddr v) (asAddr v') := by
  cases hv with
  | ptr h => exact .pure h
  | pnil => exact r_rt .nilDeref _ trivial
  | _ => exact r_stuck _ _
theorem r_asIntOf {R0 : BR} {v v' : Value} (hv : VR X.G R0 v v') : SemR X EqR R (asIntOf v) (asIntOf v') := by
  cases hv with
  | int k n => exact .pure rfl
  | ptr h => exact .dead (.unsupported _ (by simp))
  | _ => exact r_stuck _ _
theorem r_asInt {R0 : BR} {v v' : Value} (hv : VR X.G R0 v v') : SemR X EqR R (asInt v) (asInt v') := SemR.bindE (r_asIntOf hv) fun _ _ _ => .pure rfl
theorem r_asBool {R0 : BR} {v v' : Value} (hv : VR X.G R0 v v') : SemR X EqR R (asBool v) (asBool v') := by
  cases hv with
  | bool b => exact .pure rfl
  | _ => exact r_stuck _ _
theorem r_asAgg {v v' : Value} (hv : VR X.G R v v') : SemR X (AVR X.G) R (asAgg v) (asAgg v') := by
  cases hv with
  | agg h1 h2 => exact .pure ⟨h1, h2⟩
  | _ => exact r_stuck _ _
theorem r_viewAt {r r' : Nat} (h : R r r') : SemR X (fun R a b => (a = none ∧ b = none) ∨ ∃ x x' u, X.vw u ∧ a = some (x, u) ∧ b = some (x', u) ∧ AR R x x') R (viewAt r) (viewAt r') := .shape h fun s s' hs => by
  cases s with
  | some s =>
    have : ∃ z, s' = some z := by rcases hs with rfl | ⟨_, _, e, n, n', _, rfl, _⟩ <;> exact ⟨_, rfl⟩
    obtain ⟨z, rfl⟩ := this
    exact .pure (.inl ⟨rfl, rfl⟩)
  | none =>
    have : s' = none := by
      rcases hs with rfl | ⟨_, _, e, n, n', h, _⟩
      · rfl
      · cases h
    subst this
    exact .getN h (fun _ _ _ _ => .pure (.inl ⟨rfl, rfl⟩)) fun x x' u hz hx => .pure (.inr ⟨x, x', u, hz, rfl, rfl, hx⟩)
theorem r_numberAt {r r' : Nat} (h : R r r') : SemR X (fun R a b => (a = none ∧ b = none) ∨ ∃ x x' l, a = some (x, l) ∧ b = some (x', l) ∧ AR R x x') R (numberAt r) (numberAt r') := .shape h fun s s' hs => by
  cases s with
  | some s =>
    have : ∃ z, s' = some z := by rcases hs with rfl | ⟨_, _, e, n, n', _, rfl, _⟩ <;> exact ⟨_, rfl⟩
    obtain ⟨z, rfl⟩ := this
    exact .pure (.inl ⟨rfl, rfl⟩)
  | none =>
    have : s' = none := by
      rcases hs with rfl | ⟨_, _, e, n, n', h, _⟩
      · rfl
      · cases h
    subst this
    exact .getN h (fun x x' l hx => .pure (.inr ⟨x, x', l, rfl, rfl, hx⟩)) fun _ _ _ _ _ => .pure (.inl ⟨rfl, rfl⟩)
theorem r_noView {a a' : Addr} (h : AR R a a') : SemR X EqR R (noView a) (noView a') := (r_viewAt h.1).bind fun R1 _ x y e => by
  rcases e with ⟨rfl, rfl⟩ | ⟨x, x', u, _, rfl, rfl, _⟩
  · exact .pure rfl
  · exact .dead (.unsupported _ (by simp))
theorem r_behind {a a' : Addr} (h : AR R a a') : SemR X (fun R p q => AR R p.1 q.1 ∧ p.2 = q.2) R (behindNumber a) (behindNumber a') := (r_numberAt h.1).bind fun R1 h1 x y e => by
  rcases e with ⟨rfl, rfl⟩ | ⟨u, u', l, rfl, rfl, hu⟩
  · exact .pure ⟨h.mono h1.sub, rfl⟩
  · exact .pure ⟨hu, rfl⟩
theorem r_byteOf {a a' : Addr} (h : AR R a a') : SemR X EqR R (byteOf a) (byteOf a') := by
  obtain ⟨b, o, s⟩ := a
  obtain ⟨b', o', s'⟩ := a'
  obtain ⟨h1, h2, h3⟩ := h
  simp only at h1 h2 h3
  subst h2 h3
  cases s' with
  | some s => exact .pure rfl
  | none =>
    refine r_program ?_
    refine SemR.bindE (r_noView (a := ⟨b, o', none⟩) (a' := ⟨b', o', none⟩) ⟨h1, rfl, rfl⟩) fun R' hs _ => ?_
    refine .shape (hs.sub _ _ h1) fun s s2 hsh => ?_
    cases s with
    | none => exact r_stuck _ _
    | some s =>
      obtain ⟨e, n⟩ := s
      have : ∃ m, s2 = some (e, m) := by
        rcases hsh with rfl | ⟨_, _, e1, n1, n2, h, rfl, _⟩
        · exact ⟨_, rfl⟩
        · cases h; exact ⟨_, rfl⟩
      obtain ⟨m, rfl⟩ := this
      simp only [Sem.bind]
      by_cases hz : X.P.cellsOf e = 0
      · rw [if_pos hz]; exact .pure rfl
      · rw [if_neg hz]
        simp only [pure]
        cases byteOfCell X.P X.P.depth e (o' % X.P.cellsOf e) with
        | some b => exact .pure rfl
        | none => exact r_stuck _ _
theorem r_partAt {a a' : Addr} (h : AR R a a') (c b : Nat) : SemR X AR R (partAt a c b) (partAt a' c b) := by
  refine SemR.bindE (r_byteOf h) fun R1 h1 x => ?_
  have hp : AR R1 ({ block := a.block, off := a.off + c } : Addr) { block := a'.block, off := a'.off + c } := ⟨h1.sub _ _ h.1, by simp [h.2.1], rfl⟩
  refine SemR.bindE (r_byteOf hp) fun R2 h2 y => ?_
  refine .pure ?_
  split
  · exact hp.mono h2.sub
  · exact ⟨h2.sub _ _ hp.1, hp.2.1, rfl⟩
theorem r_fieldPlace {a a' : Addr} (h : AR R a a') (f : Field) : SemR X AR R (fieldPlace a f) (fieldPlace a' f) := by
  refine SemR.bindE (r_sizeOf _) fun R1 h1 n => ?_
  split
  · exact r_partAt (h.mono h1.sub) _ _
  · exact .pure ((h.mono h1.sub).add _)
theorem r_fieldAt {v v' : Value} (hv : VR X.G R v v') (s : TypeId) (f : Nat) : SemR X (VX X) R (Instr.fieldAt s v f) (Instr.fieldAt s v' f) := by
  refine SemR.bindE (r_underlying s) fun R1 h1 d => ?_
  split
  · split
    · refine SemR.bind (r_sureAddr (hv.mono h1.sub)) fun R2 h2 a a' ha => ?_
      refine SemR.bind (r_fieldPlace ha _) fun R3 h3 b b' hb => ?_
      exact .pure (.ptr hb)
    · exact r_stuck _ _
  · exact r_stuck _ _
theorem r_indexAt {v v' i i' : Value} (hv : VR X.G R v v') (hi : VR X.G R i i') (t : TypeId) : SemR X (VX X) R (Instr.indexAt t v i) (Instr.indexAt t v' i') := by
  refine SemR.bindE (r_asIntOf hi) fun R1 h1 ki => ?_
  obtain ⟨k, n⟩ := ki
  have hv := hv.mono h1.sub
  refine SemR.bindE (r_underlying t) fun R2 h2 d => ?_
  have hv := hv.mono h2.sub
  have fin : ∀ {R : BR} (base base' : Option Addr) (len : Nat) (elem : TypeId), (match base, base' with | none, none => True | some a, some a' => AR R a a' | _, _ => False) →
      SemR X (VX X) R (do
        let tiny := len ≤ 1 && (match ← underlying t with | .array .. => true | _ => false)
        match base with
        | some a =>
          if 0 ≤ n ∧ n < len then pure (.pointer (some (a.add (n.toNat * (← sizeOf elem)))))
          else if tiny then unsupported (.noEntry "op/indexAddr.an index out of range at an array of length 0 or 1 (ledger 616)")
          else boundsPanic k n len .index
        | none => boundsPanic k n 0 .index) (do
        let tiny := len ≤ 1 && (match ← underlying t with | .array .. => true | _ => false)
        match base' with
        | some a =>
          if 0 ≤ n ∧ n < len then pure (.pointer (some (a.add (n.toNat * (← sizeOf elem)))))
          else if tiny then unsupported (.noEntry "op/indexAddr.an index out of range at an array of length 0 or 1 (ledger 616)")
          else boundsPanic k n len .index
        | none => boundsPanic k n 0 .index) := by
    intro R base base' len elem hb
    refine SemR.bindE (r_underlying t) fun R3 h3 d => ?_
    cases base with
    | none =>
      cases base' with
      | none => exact r_bounds _ _ _ _ _
      | some _ => exact hb.elim
    | some a =>
      cases base' with
      | none => exact hb.elim
      | some a' =>
        dsimp only
        split
        · refine SemR.bindE (r_sizeOf _) fun R4 h4 m => ?_
          exact .pure (.ptr ((hb.mono (h3.sub.trans h4.sub)).add _))
        · exact .dead (Halts.ite (.unsupported _ (by simp)) (halts_bounds _ _ _ _))
  cases d with
  | array len elem =>
    refine SemR.bind (r_sureAddr hv) fun R3 h3 a a' ha => ?_
    exact fin (some a) (some a') len elem ha
  | slice elem =>
    cases hv with
    | snil l c => exact fin none none l elem trivial
    | slice l c ha => exact fin (some _) (some _) l elem ha
    | _ => exact .dead (Halts.bind (Halts.stuck _) _)
  | _ => exact .dead (Halts.bind (Halts.stuck _) _)
end

end Go.Proofs.Ytcgjppacnhmjlaa.Sim
end

section
set_option linter.unusedVariables false
set_option linter.unusedSimpArgs false
set_option linter.unusedSectionVars false
/-! Operations, continued. -/
namespace Go.Proofs.Ytcgjppacnhmjlaa.Sim
open Go
set_option linter.unusedVariables false

section
variable {X : Ctx} {R : BR} {α β γ δ : Type}

def OVR (G : FuncId → Prop) (R : BR) : Option Value → Option Value → Prop
  | none, none => True
  | some v, some v' => VR G R v v'
  | _, _ => False
theorem OVR.mono {G : FuncId → Prop} {R R' : BR} (hs : BR.Sub R R') : ∀ {o o' : Option Value}, OVR G R o o' → OVR G R' o o'
  | none, none, _ => trivial
  | some _, some _, h => VR.mono h hs
  | none, some _, h => h.elim
  | some _, none, h => h.elim

theorem r_sliceBound {R0 : BR} {v v' : Value} (hv : VR X.G R0 v v') (y : Nat) (c : BoundsCode) : SemR X EqR R (Instr.sliceBound v y c) (Instr.sliceBound v' y c) := by
  refine SemR.bindE (r_asIntOf hv) fun R1 h1 ki => ?_
  obtain ⟨k, i⟩ := ki
  dsimp only
  split
  · exact .pure rfl
  · exact r_bounds _ _ _ _ _
theorem r_sliceBounds {R0 : BR} (b : Bool) (len cap : Nat) {lo lo' hi hi' mx mx' : Option Value} (hl : OVR X.G R0 lo lo') (hh : OVR X.G R0 hi hi') (hm : OVR X.G R0 mx mx') :
    SemR X EqR R (Instr.sliceBounds b len cap lo hi mx) (Instr.sliceBounds b len cap lo' hi' mx') := by
  unfold Instr.sliceBounds
  cases mx <;> cases mx' <;> first | exact hm.elim | skip
  all_goals cases hi <;> cases hi' <;> first | exact hh.elim | skip
  all_goals cases lo <;> cases lo' <;> first | exact hl.elim | skip
  all_goals dsimp only
  all_goals repeat (first | exact SemR.pure rfl | refine SemR.bindE (r_sliceBound (by assumption) _ _) fun _ _ _ => ?_ | refine SemR.bindE (SemR.pure rfl) fun _ _ _ => ?_ | exact SemR.dead (Halts.bind (Halts.stuck _) _))
theorem r_slice {v v' : Value} (hv : VR X.G R v v') (t : TypeId) {lo lo' hi hi' mx mx' : Option Value} (hl : OVR X.G R lo lo') (hh : OVR X.G R hi hi') (hm : OVR X.G R mx mx') :
    SemR X (VX X) R (Instr.slice t v lo hi mx) (Instr.slice t v' lo' hi' mx') := by
  refine SemR.bindE (r_underlying t) fun R1 h1 d => ?_
  have hv := hv.mono h1.sub
  have hl := hl.mono h1.sub
  have hh := hh.mono h1.sub
  have hm := hm.mono h1.sub
  cases d with
  | string =>
    cases hv with
    | string s =>
      cases mx <;> cases mx' <;> first | exact hm.elim | skip
      · refine SemR.bindE (r_sliceBounds _ _ _ hl hh (mx := none) (mx' := none) trivial) fun R2 h2 x => .pure (.string _)
      · exact r_stuck _ _
    | _ => exact r_stuck _ _
  | slice e =>
    cases hv with
    | snil l c =>
      refine SemR.bindE (r_sliceBounds _ _ _ hl hh hm) fun R2 h2 x => ?_
      refine SemR.bindE (r_sizeOf _) fun R3 h3 n => ?_
      obtain ⟨l, h, m⟩ := x
      refine .pure ?_
      dsimp only
      split
      · exact .snil _ _
      · exact .snil _ _
    | slice l c ha =>
      refine SemR.bindE (r_sliceBounds _ _ _ hl hh hm) fun R2 h2 x => ?_
      refine SemR.bindE (r_sizeOf _) fun R3 h3 n => ?_
      obtain ⟨l, h, m⟩ := x
      refine .pure ?_
      dsimp only
      have ha := (ha.mono h2.sub).mono h3.sub
      split
      · exact .slice _ _ ha
      · exact .slice _ _ (ha.add _)
    | _ => exact r_stuck _ _
  | pointer e =>
    refine SemR.bind (r_asAddr hv) fun R2 h2 a a' ha => ?_
    refine SemR.bindE (r_underlying e) fun R3 h3 d => ?_
    cases d with
    | array n el =>
      refine SemR.bindE (r_sliceBounds _ _ _ ((hl.mono h2.sub).mono h3.sub) ((hh.mono h2.sub).mono h3.sub) ((hm.mono h2.sub).mono h3.sub)) fun R4 h4 x => ?_
      refine SemR.bindE (r_sizeOf _) fun R5 h5 n => ?_
      obtain ⟨l, h, m⟩ := x
      refine .pure ?_
      have ha := ((ha.mono h3.sub).mono h4.sub).mono h5.sub
      dsimp only
      split
      · exact .slice _ _ ha
      · exact .slice _ _ (ha.add _)
    | _ => exact r_stuck _ _
  | _ => exact r_stuck _ _
theorem r_sliceAt {v v' : Value} (hv : VR X.G R v v') (t : TypeId) {lo lo' hi hi' mx mx' : Option Value} (hl : OVR X.G R lo lo') (hh : OVR X.G R hi hi') (hm : OVR X.G R mx mx') :
    SemR X (VX X) R (Instr.sliceAt t v lo hi mx) (Instr.sliceAt t v' lo' hi' mx') := by
  refine SemR.bindE (r_underlying t) fun R1 h1 d => ?_
  have hv := hv.mono h1.sub
  have hl := hl.mono h1.sub
  have hh := hh.mono h1.sub
  have hm := hm.mono h1.sub
  cases d with
  | array n e =>
    refine SemR.bind (r_sureAddr hv) fun R2 h2 a a' ha => ?_
    refine SemR.bindE (r_sliceBounds _ _ _ (hl.mono h2.sub) (hh.mono h2.sub) (hm.mono h2.sub)) fun R4 h4 x => ?_
    refine SemR.bindE (r_sizeOf _) fun R5 h5 n => ?_
    obtain ⟨l, h, m⟩ := x
    refine .pure ?_
    have ha := (ha.mono h4.sub).mono h5.sub
    dsimp only
    split
    · exact .slice _ _ ha
    · exact .slice _ _ (ha.add _)
  | _ => exact r_slice hv t hl hh hm

theorem r_part {c c' : Array Value} (hc : AVR X.G R c c') (t : TypeId) (off : Nat) : SemR X (VX X) R (part t c off) (part t c' off) := by
  refine SemR.bindE (r_isAgg t) fun R1 h1 b => ?_
  cases b with
  | true => exact SemR.bindE (r_sizeOf _) fun R2 h2 n => .pure (((hc.mono h1.sub).mono h2.sub).extract _ _).agg
  | false =>
    have hc := hc.mono h1.sub
    simp only [Bool.false_eq_true, if_false]
    cases hx : c[off]? with
    | none => exact r_stuck _ _
    | some v => obtain ⟨v', e, hv⟩ := hc.get hx; rw [e]; exact .pure hv
theorem r_field {v v' : Value} (hv : VR X.G R v v') (t : TypeId) (f : Nat) : SemR X (VX X) R (Instr.field t v f) (Instr.field t v' f) := by
  refine SemR.bindE (r_underlying t) fun R1 h1 d => ?_
  cases d with
  | struct fs =>
    dsimp only
    cases fs[f]? with
    | none => exact r_stuck _ _
    | some x => exact SemR.bind (r_asAgg (hv.mono h1.sub)) fun R2 h2 c c' hc => r_part hc _ _
  | _ => exact r_stuck _ _
theorem r_index {v v' i i' : Value} (hv : VR X.G R v v') (hi : VR X.G R i i') (t : TypeId) : SemR X (VX X) R (Instr.index t v i) (Instr.index t v' i') := by
  refine SemR.bindE (r_asIntOf hi) fun R1 h1 ki => ?_
  obtain ⟨k, n⟩ := ki
  refine SemR.bindE (r_underlying t) fun R2 h2 d => ?_
  have hv := (hv.mono h1.sub).mono h2.sub
  cases d with
  | array len e =>
    cases hv with
    | agg h3 h4 =>
      dsimp only
      split
      · exact SemR.bindE (r_sizeOf _) fun R3 h5 m => r_part (AVR.mono ⟨h3, h4⟩ h5.sub) _ _
      · exact r_bounds _ _ _ _ _
    | _ => exact r_stuck _ _
  | string =>
    cases hv with
    | string s =>
      dsimp only
      split
      · exact .pure (.int _ _)
      · exact r_bounds _ _ _ _ _
    | _ => exact r_stuck _ _
  | _ => exact r_stuck _ _
theorem r_extract {v v' : Value} (hv : VR X.G R v v') (i : Nat) : SemR X (VX X) R (Instr.extract v i) (Instr.extract v' i) := by
  cases hv with
  | @tuple xs xs' h1 h2 =>
    have hc : AVR X.G R xs xs' := ⟨h1, h2⟩
    unfold Instr.extract
    dsimp only
    cases hx : xs[i]? with
    | none => exact r_stuck _ _
    | some v => obtain ⟨v', e, hv⟩ := hc.get hx; rw [e]; exact .pure hv
  | _ => exact r_stuck _ _
theorem r_alloc {e : TypeId} (T : ZOk X e) : SemR X (VX X) R (Instr.alloc e true (.tuple #[])) (Instr.alloc e true (.tuple #[])) :=
  (r_zero T).bind fun R1 _ v v' hv => (r_newVar hv e).bind fun R2 _ a a' ha => .pure (.ptr ha)
theorem r_box {v v' : Value} (hv : VR X.G R v v') (e : TypeId) : SemR X (VX X) R (Instr.box e v) (Instr.box e v') := (r_newVar hv e).bind fun R2 _ a a' ha => .pure (.ptr ha)
theorem r_loadAt {v v' : Value} (hv : VR X.G R v v') (t : TypeId) : SemR X (VX X) R (Instr.loadAt t v) (Instr.loadAt t v') := (r_sureAddr hv).bind fun R1 _ a a' ha => r_loadVar ha t
theorem r_storeAt {v v' x x' : Value} (hv : VR X.G R v v') (hx : VR X.G R x x') (t : TypeId) : SemR X EqR R (Instr.storeAt t v x) (Instr.storeAt t v' x') :=
  (r_sureAddr hv).bind fun R1 h1 a a' ha => r_storeVar ha (hx.mono h1.sub) t

/-! ### rows of cells that are put together -/
theorem fold_row {G : FuncId → Prop} (off : Nat) : ∀ (l l' : List Value) (k : Nat) {cs cs' : Array Value}, l.length = l'.length → (∀ (i : Nat) v v', l[i]? = some v → l'[i]? = some v' → VR G R v v') → AVR G R cs cs' →
    AVR G R ((l.zipIdx k).foldl (fun cs (x : Value × Nat) => cs.setIfInBounds (off + x.2) x.1) cs) ((l'.zipIdx k).foldl (fun cs (x : Value × Nat) => cs.setIfInBounds (off + x.2) x.1) cs')
  | [], [], _, _, _, _, _, hc => hc
  | v :: l, v' :: l', k, _, _, hl, hv, hc => by
    simp only [List.zipIdx_cons, List.foldl_cons]
    exact fold_row off l l' (k + 1) (by simpa using hl) (fun i x x' h h' => hv (i + 1) x x' h h') (hc.set _ (hv 0 v v' rfl rfl))
  | [], _ :: _, _, _, _, h, _, _ => by simp at h
  | _ :: _, [], _, _, _, h, _, _ => by simp at h
inductive PVR (G : FuncId → Prop) (R : BR) : List (Nat × Value) → List (Nat × Value) → Prop
  | nil : PVR G R [] []
  | cons {i : Nat} {v v' : Value} {l l' : List (Nat × Value)} : VR G R v v' → PVR G R l l' → PVR G R ((i, v) :: l) ((i, v') :: l')
theorem PVR.mono {G : FuncId → Prop} {R R' : BR} {l l' : List (Nat × Value)} (h : PVR G R l l') (hs : BR.Sub R R') : PVR G R' l l' := by
  induction h with
  | nil => exact .nil
  | cons hv _ ih => exact .cons (hv.mono hs) ih
theorem fill_rel {G : FuncId → Prop} (place : Nat → Option (Nat × Nat)) {l l' : List (Nat × Value)} (h : PVR G R l l') : ∀ {cs cs' : Array Value}, AVR G R cs cs' →
    (Instr.fill place cs l = none ∧ Instr.fill place cs' l' = none) ∨ ∃ c c', Instr.fill place cs l = some c ∧ Instr.fill place cs' l' = some c' ∧ AVR G R c c' := by
  induction h with
  | nil => intro cs cs' hc; exact .inr ⟨cs, cs', rfl, rfl, hc⟩
  | @cons i v v' l l' hv _ ih =>
    intro cs cs' hc
    unfold Instr.fill
    cases place i with
    | none => exact .inl ⟨rfl, rfl⟩
    | some os =>
      obtain ⟨off, size⟩ := os
      dsimp only
      rw [← hv.cells.1, ← hc.1]
      split
      · exact .inl ⟨rfl, rfl⟩
      · refine ih ?_
        have hl := hv.cells.list
        have := fold_row (G := G) off v.cells.toList v'.cells.toList 0 hl.1 hl.2 hc
        rw [← Array.foldl_toList, ← Array.foldl_toList, Array.toList_zipIdx, Array.toList_zipIdx]
        exact this
theorem r_build {t : TypeId} (T : ZOk X t) {ps ps' : Array (Nat × Value)} (hp : PVR X.G R ps.toList ps'.toList) : SemR X (VX X) R (Instr.build t ps) (Instr.build t ps') := by
  refine (r_zero T).bind fun R1 h1 z z' hz => ?_
  refine SemR.bindE (r_underlying t) fun R2 h2 d => ?_
  have hp := (hp.mono h1.sub).mono h2.sub
  have hz := (hz.mono h2.sub).cells
  cases d with
  | struct fs =>
    have hm : ∀ (l : List Field) {R : BR}, SemR X EqR R (List.mapM (m := Sem) (fun (f : Field) => do pure (f.offset, ← sizeOf f.type)) l) (List.mapM (m := Sem) (fun (f : Field) => do pure (f.offset, ← sizeOf f.type)) l) := by
      intro l
      induction l with
      | nil => intro R; exact .pure rfl
      | cons f l ih =>
        intro R
        rw [List.mapM_cons]
        exact SemR.bindE (SemR.bindE (r_sizeOf _) fun _ _ _ => .pure rfl) fun R' _ x => SemR.bindE ih fun _ _ _ => .pure rfl
    have hm2 : ∀ {R : BR}, SemR X EqR R (Array.mapM (m := Sem) (fun (f : Field) => do pure (f.offset, ← sizeOf f.type)) fs) (Array.mapM (m := Sem) (fun (f : Field) => do pure (f.offset, ← sizeOf f.type)) fs) := by
      intro R
      rw [Array.mapM_eq_mapM_toList]
      exact SemR.bindE (hm _) fun _ _ _ => .pure rfl
    refine SemR.bindE hm2 fun R3 h3 places => ?_
    rcases fill_rel (R := R3) (places[·]?) (hp.mono h3.sub) (hz.mono h3.sub) with ⟨e1, e2⟩ | ⟨c, c', e1, e2, hc⟩
    · rw [e1, e2]; exact r_stuck _ _
    · rw [e1, e2]; exact .pure hc.agg
  | array n e =>
    refine SemR.bindE (r_sizeOf _) fun R3 h3 m => ?_
    rcases fill_rel (R := R3) (fun i => some (i * m, m)) (hp.mono h3.sub) (hz.mono h3.sub) with ⟨e1, e2⟩ | ⟨c, c', e1, e2, hc⟩
    · rw [e1, e2]; exact r_stuck _ _
    · rw [e1, e2]; exact .pure hc.agg
  | _ => exact r_stuck _ _
/-- A row of so many zeros. -/
theorem zeros_rel {G : FuncId → Prop} {z z' : Array Value} (hz : AVR G R z z') (n : Nat) : AVR G R ((Array.range n).map (z[· % z.size]!)) ((Array.range n).map (z'[· % z'.size]!)) := by
  refine ⟨by simp, fun i a b ha hb => ?_⟩
  simp only [Array.getElem?_map, Array.getElem?_range] at ha hb
  by_cases hi : i < n
  · simp only [hi, if_true, Option.map_some, Option.some.injEq] at ha hb
    subst ha hb
    rw [getElem!_def, getElem!_def, ← hz.1]
    cases hx : z[i % z.size]? with
    | none => rw [hz.none hx]; exact .bool false
    | some v => obtain ⟨v', e, hv⟩ := hz.get hx; rw [e]; exact hv
  · simp [hi] at ha
theorem r_buildSlice {t : TypeId} (T : ∀ e, X.P.underlying t = some (.slice e) → ZOk X e) (len : Nat) {ps ps' : Array (Nat × Value)} (hp : PVR X.G R ps.toList ps'.toList) : SemR X (VX X) R (Instr.buildSlice t len ps) (Instr.buildSlice t len ps') := by
  refine SemR.bind (r_underlyingI t) fun R1 h1 d d' hd => ?_
  obtain ⟨rfl, hd⟩ := hd
  cases d with
  | slice e =>
    refine SemR.bindE (r_sizeOf _) fun R2 h2 m => ?_
    dsimp only
    split
    · exact .dead (Halts.bind (.unsupported _ (by simp)) _)
    · have hp := (hp.mono h1.sub).mono h2.sub
      have fin : ∀ (R3 : BR) (z z' : Array Value), BR.Sub R2 R3 → AVR X.G R3 z z' → SemR X (VX X) R3 (match Instr.fill (fun i => some (i * m, m)) ((Array.range (len * m)).map (z[· % z.size]!)) ps.toList with
          | some cells => do pure (.slice (some (← newRow e cells)) len len)
          | _ => stuck "buildSlice: a part of the wrong size") (match Instr.fill (fun i => some (i * m, m)) ((Array.range (len * m)).map (z'[· % z'.size]!)) ps'.toList with
          | some cells => do pure (.slice (some (← newRow e cells)) len len)
          | _ => stuck "buildSlice: a part of the wrong size") := by
        intro R3 z z' hs hz
        rcases fill_rel (R := R3) (fun i => some (i * m, m)) (hp.mono hs) (zeros_rel hz (len * m)) with ⟨e1, e2⟩ | ⟨c, c', e1, e2, hc⟩
        · rw [e1, e2]; exact r_stuck _ _
        · rw [e1, e2]; exact (r_newRow hc e).bind fun R4 _ a a' ha => .pure (.slice _ _ ha)
      split
      · exact fin R2 #[] #[] (.refl _) .nil
      · exact (r_zero (T e hd)).bind fun R3 h3 z z' hz => fin R3 _ _ h3.sub hz.cells
  | _ => exact r_stuck _ _
theorem Halts.choose {P : Program} {q : Question} {k : Nat → Sem α} (h : ∀ n, Halts P (k n)) : Halts P (.choose q k) := fun w => by
  simp only [Sem.run]
  split
  · exact h 0 w
  · exact h _ _
theorem r_askRoom (n : Nat) : SemR X EqR R (askRoom n) (askRoom n) := by
  unfold askRoom
  split
  · exact .mark (.inl rfl) (.pure rfl)
  · exact .pure rfl
theorem r_makeSlice {t : TypeId} (T : ∀ e, X.P.underlying t = some (.slice e) → ZOk X e) {l l' c c' : Value} (hl : VR X.G R l l') (hc : VR X.G R c c') : SemR X (VX X) R (Instr.makeSlice t l c) (Instr.makeSlice t l' c') := by
  refine SemR.bind (r_underlyingI t) fun R1 h1 d d' hd => ?_
  obtain ⟨rfl, hd⟩ := hd
  cases d with
  | slice e =>
    refine SemR.bindE (r_asInt (hl.mono h1.sub)) fun R2 h2 ln => ?_
    refine SemR.bindE (r_asInt ((hc.mono h1.sub).mono h2.sub)) fun R3 h3 cp => ?_
    refine (r_typeInfo e).bind fun R4 h4 ti ti' hti => ?_
    obtain ⟨rfl, _⟩ := hti
    dsimp only
    split
    · refine .dead (Halts.ite (Halts.bind (halts_rt (.error _) trivial) _) (Halts.ite (Halts.bind (halts_rt (.error _) trivial) _) ?_))
      exact Halts.choose fun n => Halts.bind (halts_rt (.error _) trivial) _
    · refine SemR.bindE (r_askRoom _) fun R5 h5 _ => ?_
      refine SemR.bindE (r_sizeOf e) fun R6 h6 m => ?_
      split
      · exact (r_newRow (zeros_rel .nil _) e).bind fun R8 _ a a' ha => .pure (.slice _ _ ha)
      · exact (r_zero (T e hd)).bind fun R7 h7 z z' hz => (r_newRow (zeros_rel hz.cells _) e).bind fun R8 _ a a' ha => .pure (.slice _ _ ha)
  | _ => exact r_stuck _ _
end

end Go.Proofs.Ytcgjppacnhmjlaa.Sim
end

section
set_option linter.unusedVariables false
set_option linter.unusedSimpArgs false
set_option linter.unusedSectionVars false
/-! Operations: built-ins, operators. -/
namespace Go.Proofs.Ytcgjppacnhmjlaa.Sim
open Go
set_option linter.unusedVariables false

section
variable {X : Ctx} {R : BR} {α β γ δ : Type}

theorem r_len {xs xs' : Array Value} (h : AVR X.G R xs xs') (ts : Array TypeId) (t : TypeId) : SemR X (VX X) R (Builtin.len_ ts t xs) (Builtin.len_ ts t xs') := by
  unfold Builtin.len_
  cases ht : ts[0]? with
  | none => exact r_stuck _ _
  | some t0 =>
    cases hx0 : xs[0]? with
    | none => exact r_stuck _ _
    | some v =>
      obtain ⟨v', e, hv⟩ := h.get hx0
      rw [e]
      dsimp only
      refine SemR.bindE (r_underlying t0) fun R1 h1 d => ?_
      have hv := hv.mono h1.sub
      cases d with
      | string => cases hv <;> first | exact .pure (.int _ _) | exact r_stuck _ _
      | array n e => exact .pure (.int _ _)
      | pointer a =>
        refine SemR.bindE (r_underlying a) fun R2 h2 d => ?_
        cases d <;> first | exact .pure (.int _ _) | exact r_stuck _ _
      | slice e => cases hv <;> first | exact .pure (.int _ _) | exact r_stuck _ _
      | _ => cases hv <;> exact r_stuck _ _

theorem r_lenOf {R0 : BR} {v v' : Value} (hv : VR X.G R0 v v') : SemR X EqR R (Builtin.lenOf v) (Builtin.lenOf v') := by
  cases hv <;> first | exact .pure rfl | exact r_stuck _ _
theorem r_firstCells {v v' : Value} (hv : VR X.G R v v') (s n : Nat) : SemR X (AVR X.G) R (Builtin.firstCells s n v) (Builtin.firstCells s n v') := by
  cases hv with
  | slice l c ha => exact r_loadCells ha _
  | snil l c => exact .pure .nil
  | string s =>
    refine .pure ⟨rfl, fun i a b ha hb => ?_⟩
    rw [ha] at hb; cases hb
    rw [Array.getElem?_map] at ha
    obtain ⟨x, _, rfl⟩ := Option.map_eq_some_iff.1 ha
    exact .int _ _
  | _ => exact r_stuck _ _
theorem zeroCells_rel {G : FuncId → Prop} {z z' : Array Value} (hz : AVR G R z z') (n : Nat) : AVR G R (Builtin.zeroCells z n) (Builtin.zeroCells z' n) := by
  have := zeros_rel hz (n * z.size)
  unfold Builtin.zeroCells
  rw [hz.1] at this ⊢
  exact this

theorem r_copy {xs xs' : Array Value} (h : AVR X.G R xs xs') (ts : Array TypeId) (t : TypeId) : SemR X (VX X) R (Builtin.copy_ ts t xs) (Builtin.copy_ ts t xs') := by
  unfold Builtin.copy_
  cases ht : ts[0]? with
  | none => exact r_stuck _ _
  | some t0 =>
    cases hx0 : xs[0]? with
    | none => exact r_stuck _ _
    | some v =>
      cases hy0 : xs[1]? with
      | none => exact r_stuck _ _
      | some x =>
        obtain ⟨v', e, hv⟩ := h.get hx0
        obtain ⟨x', e', hx⟩ := h.get hy0
        rw [e, e']
        dsimp only
        refine SemR.bindE (r_underlying t0) fun R1 h1 d => ?_
        have hv := hv.mono h1.sub
        have hx := hx.mono h1.sub
        cases d with
        | slice el =>
          cases hv with
          | snil l c =>
            refine SemR.bindE (r_lenOf hx) fun R2 h2 n => ?_
            refine SemR.bindE (r_sizeOf el) fun R3 h3 s => ?_
            exact (r_firstCells ((hx.mono h2.sub).mono h3.sub) s _).bind fun R4 _ c c' _ => .pure (.int _ _)
          | slice l c ha =>
            refine SemR.bindE (r_lenOf hx) fun R2 h2 n => ?_
            refine SemR.bindE (r_sizeOf el) fun R3 h3 s => ?_
            refine (r_firstCells ((hx.mono h2.sub).mono h3.sub) s _).bind fun R4 h4 c c' hc => ?_
            exact SemR.bindE (r_storeCells _ _ 0 (((ha.mono h2.sub).mono h3.sub).mono h4.sub) hc.list.1 hc.list.2) fun _ _ _ => .pure (.int _ _)
          | _ => exact r_stuck _ _
        | _ => exact r_stuck _ _

/-- A question put ahead of a dead end. -/
theorem Halts.pre {P : Program} {s : Sem α} {f : α → Sem β} (hs : ∀ w, ∃ a w', s.run P w = .ok a w') (h : ∀ a, Halts P (f a)) : Halts P (s.bind f) := fun w => by
  obtain ⟨a, w', e⟩ := hs w
  rw [run_bind, e]
  exact h a w'
theorem ok_bind {P : Program} {s : Sem α} {f : α → Sem β} (hs : ∀ w, ∃ a w', s.run P w = .ok a w') (h : ∀ a w, ∃ b w', (f a).run P w = .ok b w') : ∀ w, ∃ b w', (s.bind f).run P w = .ok b w' := fun w => by
  obtain ⟨a, w', e⟩ := hs w
  rw [run_bind, e]
  exact h a w'
theorem ok_holds {P : Program} (a : Addr) (n : Nat) : ∀ w, ∃ b w', (Builtin.holdsCells a n).run P w = .ok b w' := fun w => by
  unfold Builtin.holdsCells
  refine ok_bind (s := shape a.block) (fun w => ⟨_, _, rfl⟩) (fun o w => ?_) w
  cases o <;> exact ⟨_, _, rfl⟩
theorem ok_share {P : Program} (size sLen n : Nat) (base : Option Addr) (x : Value) : ∀ w, ∃ b w', (Builtin.mayShare size sLen n base x).run P w = .ok b w' := by
  have fin : ∀ (t : Bool) (w : World), ∃ b w', (if (!t) = true then (pure true : Sem Bool) else match x with
      | .slice (some b) _ _ => do pure (!(← Builtin.holdsCells b (n * size)) || base.any (·.block == b.block))
      | _ => pure false).run P w = .ok b w' := by
    intro t w
    split
    · exact ⟨_, _, rfl⟩
    · split
      · exact ok_bind (ok_holds _ _) (fun a w => ⟨_, _, rfl⟩) w
      · exact ⟨_, _, rfl⟩
  unfold Builtin.mayShare
  cases base with
  | none => exact fun w => fin true w
  | some a =>
    refine ok_bind (ok_holds _ _) fun t w => ?_
    refine ok_bind (s := frozen _) (fun w => ⟨_, _, rfl⟩) (fun z w => ?_) w
    exact fin _ w

/-- An early way out that is dead. -/
theorem r_ite {A : BR → α → β → Prop} {c : Prop} [Decidable c] {s1 s2 : Sem α} {t1 t2 : Sem β} (h : Halts X.P s1) (h' : ¬ c → SemR X A R s2 t2) : SemR X A R (if c then s1 else s2) (if c then t1 else t2) := by
  split
  · exact .dead h
  · rename_i hc; exact h' hc
theorem r_append {ts : Array TypeId} (T : ∀ t0 e, ts[0]? = some t0 → X.P.underlying t0 = some (.slice e) → ZOk X e) {xs xs' : Array Value} (h : AVR X.G R xs xs') (t : TypeId) (hi : ∀ t1, ts[1]? = some t1 → ∀ k, X.P.underlying t1 ≠ some (.int k)) : SemR X (VX X) R (Builtin.append_ ts t xs) (Builtin.append_ ts t xs') := by
  unfold Builtin.append_
  cases ht : ts[0]? with
  | none => exact r_stuck _ _
  | some t0 =>
    cases hx0 : xs[0]? with
    | none => exact r_stuck _ _
    | some v =>
      cases hy0 : xs[1]? with
      | none => exact r_stuck _ _
      | some x =>
        obtain ⟨v', e, hv⟩ := h.get hx0
        obtain ⟨x', e', hx⟩ := h.get hy0
        rw [e, e']
        dsimp only
        refine SemR.bind (r_underlyingI t0) fun R1 h1 d d' hd => ?_
        obtain ⟨rfl, hd0⟩ := hd
        have hv := hv.mono h1.sub
        have hx := hx.mono h1.sub
        cases d with
        | slice el =>
          cases hv with
          | slice l c ha =>
            have hb : VR X.G R1 _ _ := VR.slice l c ha
            dsimp only
            refine SemR.bindE (r_sizeOf el) fun R2 h2 s => ?_
            cases ht1 : ts[1]? with
            | none =>
              dsimp only
              refine SemR.bind (A := fun _ a b => a = false ∧ b = false) (SemR.pure ⟨rfl, rfl⟩) fun R4 h4 z z' hz => ?_
              have h04 := h2.sub.trans h4.sub
              obtain ⟨rfl, rfl⟩ := hz
              simp only [Bool.false_eq_true, if_false, Bool.not_false, if_true, false_or]
              refine SemR.bindE (r_lenOf hx) fun R5 h5 n => ?_
              have h05 := h04.trans h5.sub
              split
              · refine (r_firstCells (hx.mono h05) s n).bind fun R6 h6 c1 c1' hc => ?_
                exact SemR.bindE (r_storeCells _ _ 0 (((ha.mono h05).mono h6.sub).add _) hc.list.1 hc.list.2) fun R7 h7 _ => .pure (.slice _ _ (((ha.mono h05).mono h6.sub).mono h7.sub))
              · refine (r_typeInfo el).bind fun R6 h6 ti ti' hti => ?_
                obtain ⟨rfl, _⟩ := hti
                refine r_ite (.bind (halts_rt (.error _) trivial) _) fun _ => ?_
                refine (r_typeInfo el).bind fun R7 h7 ti ti' hti => ?_
                obtain ⟨rfl, _⟩ := hti
                refine r_ite (.bind (.pre (ok_share _ _ _ _ _) fun b => .ite (.pre (fun w => ⟨_, _, rfl⟩) fun _ => .unsupported _ (by simp)) (.unsupported _ (by simp))) _) fun _ => ?_
                refine .choose fun nc => ?_
                refine (r_typeInfo el).bind fun R8 h8 ti ti' hti => ?_
                obtain ⟨rfl, _⟩ := hti
                refine SemR.bindE (r_askRoom _) fun R9 h9 _ => ?_
                have h09 := (((h05.trans h6.sub).trans h7.sub).trans h8.sub).trans h9.sub
                refine (r_firstCells (hb.mono h09) s l).bind fun R10 h10 o1 o1' ho => ?_
                have h010 := h09.trans h10.sub
                refine (r_firstCells (hx.mono h010) s n).bind fun R11 h11 n1 n1' hn => ?_
                refine (r_zero (T t0 el ht hd0)).bind fun R12 h12 z z' hz => ?_
                refine (r_newRow ((((ho.mono h11.sub).mono h12.sub).append (hn.mono h12.sub)).append (zeroCells_rel hz.cells _)) el).bind fun R13 h13 a a' ha => ?_
                exact .pure (.slice _ _ ha)
            | some t1 =>
              dsimp only
              refine SemR.bind (r_underlyingI t1) fun R3 h3 dd dd' hd => ?_
              refine SemR.bind (A := fun _ a b => a = false ∧ b = false) (SemR.pure ⟨?_, ?_⟩) fun R4 h4 z z' hz => ?_
              · cases dd <;> first | rfl | exact absurd hd.2 (hi _ ht1 _)
              · rw [← hd.1]; cases dd <;> first | rfl | exact absurd hd.2 (hi _ ht1 _)
              have h04 := (h2.sub.trans h3.sub).trans h4.sub
              obtain ⟨rfl, rfl⟩ := hz
              simp only [Bool.false_eq_true, if_false, Bool.not_false, if_true, false_or]
              refine SemR.bindE (r_lenOf hx) fun R5 h5 n => ?_
              have h05 := h04.trans h5.sub
              split
              · refine (r_firstCells (hx.mono h05) s n).bind fun R6 h6 c1 c1' hc => ?_
                exact SemR.bindE (r_storeCells _ _ 0 (((ha.mono h05).mono h6.sub).add _) hc.list.1 hc.list.2) fun R7 h7 _ => .pure (.slice _ _ (((ha.mono h05).mono h6.sub).mono h7.sub))
              · refine (r_typeInfo el).bind fun R6 h6 ti ti' hti => ?_
                obtain ⟨rfl, _⟩ := hti
                refine r_ite (.bind (halts_rt (.error _) trivial) _) fun _ => ?_
                refine (r_typeInfo el).bind fun R7 h7 ti ti' hti => ?_
                obtain ⟨rfl, _⟩ := hti
                refine r_ite (.bind (.pre (ok_share _ _ _ _ _) fun b => .ite (.pre (fun w => ⟨_, _, rfl⟩) fun _ => .unsupported _ (by simp)) (.unsupported _ (by simp))) _) fun _ => ?_
                refine .choose fun nc => ?_
                refine (r_typeInfo el).bind fun R8 h8 ti ti' hti => ?_
                obtain ⟨rfl, _⟩ := hti
                refine SemR.bindE (r_askRoom _) fun R9 h9 _ => ?_
                have h09 := (((h05.trans h6.sub).trans h7.sub).trans h8.sub).trans h9.sub
                refine (r_firstCells (hb.mono h09) s l).bind fun R10 h10 o1 o1' ho => ?_
                have h010 := h09.trans h10.sub
                refine (r_firstCells (hx.mono h010) s n).bind fun R11 h11 n1 n1' hn => ?_
                refine (r_zero (T t0 el ht hd0)).bind fun R12 h12 z z' hz => ?_
                refine (r_newRow ((((ho.mono h11.sub).mono h12.sub).append (hn.mono h12.sub)).append (zeroCells_rel hz.cells _)) el).bind fun R13 h13 a a' ha => ?_
                exact .pure (.slice _ _ ha)
          | snil l c =>
            have hb : VR X.G R1 _ _ := VR.snil l c
            dsimp only
            refine SemR.bindE (r_sizeOf el) fun R2 h2 s => ?_
            cases ht1 : ts[1]? with
            | none =>
              dsimp only
              refine SemR.bind (A := fun _ a b => a = false ∧ b = false) (SemR.pure ⟨rfl, rfl⟩) fun R4 h4 z z' hz => ?_
              have h04 := h2.sub.trans h4.sub
              obtain ⟨rfl, rfl⟩ := hz
              simp only [Bool.false_eq_true, if_false, Bool.not_false, if_true, false_or]
              refine SemR.bindE (r_lenOf hx) fun R5 h5 n => ?_
              have h05 := h04.trans h5.sub
              split
              · refine (r_firstCells (hx.mono h05) s n).bind fun R6 h6 c1 c1' hc => ?_
                exact .pure (.snil _ _)
              · refine (r_typeInfo el).bind fun R6 h6 ti ti' hti => ?_
                obtain ⟨rfl, _⟩ := hti
                refine r_ite (.bind (halts_rt (.error _) trivial) _) fun _ => ?_
                refine (r_typeInfo el).bind fun R7 h7 ti ti' hti => ?_
                obtain ⟨rfl, _⟩ := hti
                refine r_ite (.bind (.pre (ok_share _ _ _ _ _) fun b => .ite (.pre (fun w => ⟨_, _, rfl⟩) fun _ => .unsupported _ (by simp)) (.unsupported _ (by simp))) _) fun _ => ?_
                refine .choose fun nc => ?_
                refine (r_typeInfo el).bind fun R8 h8 ti ti' hti => ?_
                obtain ⟨rfl, _⟩ := hti
                refine SemR.bindE (r_askRoom _) fun R9 h9 _ => ?_
                have h09 := (((h05.trans h6.sub).trans h7.sub).trans h8.sub).trans h9.sub
                refine (r_firstCells (hb.mono h09) s l).bind fun R10 h10 o1 o1' ho => ?_
                have h010 := h09.trans h10.sub
                refine (r_firstCells (hx.mono h010) s n).bind fun R11 h11 n1 n1' hn => ?_
                refine (r_zero (T t0 el ht hd0)).bind fun R12 h12 z z' hz => ?_
                refine (r_newRow ((((ho.mono h11.sub).mono h12.sub).append (hn.mono h12.sub)).append (zeroCells_rel hz.cells _)) el).bind fun R13 h13 a a' ha => ?_
                exact .pure (.slice _ _ ha)
            | some t1 =>
              dsimp only
              refine SemR.bind (r_underlyingI t1) fun R3 h3 dd dd' hd => ?_
              refine SemR.bind (A := fun _ a b => a = false ∧ b = false) (SemR.pure ⟨?_, ?_⟩) fun R4 h4 z z' hz => ?_
              · cases dd <;> first | rfl | exact absurd hd.2 (hi _ ht1 _)
              · rw [← hd.1]; cases dd <;> first | rfl | exact absurd hd.2 (hi _ ht1 _)
              have h04 := (h2.sub.trans h3.sub).trans h4.sub
              obtain ⟨rfl, rfl⟩ := hz
              simp only [Bool.false_eq_true, if_false, Bool.not_false, if_true, false_or]
              refine SemR.bindE (r_lenOf hx) fun R5 h5 n => ?_
              have h05 := h04.trans h5.sub
              split
              · refine (r_firstCells (hx.mono h05) s n).bind fun R6 h6 c1 c1' hc => ?_
                exact .pure (.snil _ _)
              · refine (r_typeInfo el).bind fun R6 h6 ti ti' hti => ?_
                obtain ⟨rfl, _⟩ := hti
                refine r_ite (.bind (halts_rt (.error _) trivial) _) fun _ => ?_
                refine (r_typeInfo el).bind fun R7 h7 ti ti' hti => ?_
                obtain ⟨rfl, _⟩ := hti
                refine r_ite (.bind (.pre (ok_share _ _ _ _ _) fun b => .ite (.pre (fun w => ⟨_, _, rfl⟩) fun _ => .unsupported _ (by simp)) (.unsupported _ (by simp))) _) fun _ => ?_
                refine .choose fun nc => ?_
                refine (r_typeInfo el).bind fun R8 h8 ti ti' hti => ?_
                obtain ⟨rfl, _⟩ := hti
                refine SemR.bindE (r_askRoom _) fun R9 h9 _ => ?_
                have h09 := (((h05.trans h6.sub).trans h7.sub).trans h8.sub).trans h9.sub
                refine (r_firstCells (hb.mono h09) s l).bind fun R10 h10 o1 o1' ho => ?_
                have h010 := h09.trans h10.sub
                refine (r_firstCells (hx.mono h010) s n).bind fun R11 h11 n1 n1' hn => ?_
                refine (r_zero (T t0 el ht hd0)).bind fun R12 h12 z z' hz => ?_
                refine (r_newRow ((((ho.mono h11.sub).mono h12.sub).append (hn.mono h12.sub)).append (zeroCells_rel hz.cells _)) el).bind fun R13 h13 a a' ha => ?_
                exact .pure (.slice _ _ ha)
          | _ => exact r_stuck _ _
        | _ => exact r_stuck _ _
end

end Go.Proofs.Ytcgjppacnhmjlaa.Sim
end

section
set_option linter.unusedVariables false
set_option linter.unusedSimpArgs false
set_option linter.unusedSectionVars false
/-! Operations: operators. -/
namespace Go.Proofs.Ytcgjppacnhmjlaa.Sim
open Go
set_option linter.unusedVariables false

section
variable {X : Ctx} {R : BR} {α β γ δ : Type}

theorem r_max {xs xs' : Array Value} (h : AVR X.G R xs xs') (ts : Array TypeId) (t : TypeId) : SemR X (VX X) R (Builtin.max_ ts t xs) (Builtin.max_ ts t xs') := by
  have m2 : ∀ {R : BR} {a a' b b' : Value}, VR X.G R a a' → VR X.G R b b' → SemR X (VX X) R (Builtin.max2 a b) (Builtin.max2 a' b') := by
    intro R a a' b b' ha hb
    cases ha with
    | int k n =>
      cases hb with
      | int k' n' => exact .pure (.int _ _)
      | ptr h => exact .dead (.unsupported _ (by simp))
      | _ => exact r_stuck _ _
    | string s =>
      cases hb with
      | string s' => exact .pure (.string _)
      | ptr h => exact .dead (.unsupported _ (by simp))
      | _ => exact r_stuck _ _
    | ptr h => exact .dead (by unfold Builtin.max2; exact .unsupported _ (by simp))
    | _ =>
      cases hb with
      | ptr h => exact .dead (.unsupported _ (by simp))
      | _ => exact r_stuck _ _
  have fold : ∀ (l l' : List Value) {R : BR} {a a' : Value}, l.length = l'.length → (∀ (i : Nat) v v', l[i]? = some v → l'[i]? = some v' → VR X.G R v v') → VR X.G R a a' → SemR X (VX X) R (l.foldlM Builtin.max2 a) (l'.foldlM Builtin.max2 a') := by
    intro l
    induction l with
    | nil => intro l' R a a' hl _ ha; cases l' with
      | nil => exact .pure ha
      | cons => simp at hl
    | cons v l ih => intro l' R a a' hl hv ha; cases l' with
      | nil => simp at hl
      | cons v' l' =>
        rw [List.foldlM_cons, List.foldlM_cons]
        exact (m2 ha (hv 0 v v' rfl rfl)).bind fun R1 h1 b b' hb => ih l' (by simpa using hl) (fun i x x' h h' => (hv (i + 1) x x' h h').mono h1.sub) hb
  have hl := h.list
  unfold Builtin.max_
  cases e : xs.toList with
  | nil => exact r_stuck _ _
  | cons x l =>
    cases e' : xs'.toList with
    | nil => rw [e, e'] at hl; simp at hl
    | cons x' l' =>
      rw [e, e'] at hl
      exact fold l l' (by simpa using hl.1) (fun i v v' h h' => hl.2 (i + 1) v v' h h') (hl.2 0 x x' rfl rfl)

theorem cellAtBytes_mono {P : Program} {d : Nat} {e : TypeId} {c c' off : Nat} {n : Int} (h : c ≤ c') {x : Nat} (hx : cellAtBytes P d e c off n = some x) : cellAtBytes P d e c' off n = some x := by
  unfold cellAtBytes at hx ⊢
  dsimp only at hx ⊢
  split at hx
  · cases hx
  · rename_i hs
    rw [if_neg hs]
    cases hb : byteOfCell P d e (off % P.cellsOf e) with
    | none => rw [hb] at hx; cases hx
    | some b =>
      rw [hb] at hx
      simp only [Option.bind_eq_bind, Option.bind_some] at hx ⊢
      split at hx
      · cases hx
      · rename_i hr
        rw [if_neg]
        · exact hx
        · simp only [Bool.or_eq_true, decide_eq_true_eq, not_or, Int.not_lt, ge_iff_le, Int.not_le] at hr ⊢
          refine ⟨hr.1, Int.lt_of_lt_of_le hr.2 ?_⟩
          have : c * P.bytesOf e ≤ c' * P.bytesOf e := Nat.mul_le_mul_right _ h
          exact Int.ofNat_le.2 this

theorem r_unsafeString {xs xs' : Array Value} (h : AVR X.G R xs xs') (ts : Array TypeId) (t : TypeId) (hu : ∀ pt, ts[0]? = some pt → ∀ e, X.P.underlying pt = some (.pointer e) → X.P.underlying e = some (.int .u8)) : SemR X (VX X) R (Builtin.unsafeString_ ts t xs) (Builtin.unsafeString_ ts t xs') := by
  obtain ⟨l⟩ := xs
  obtain ⟨l'⟩ := xs'
  match l, l', h with
  | [], l', h => exact r_stuck _ _
  | [a], l', h => exact r_stuck _ _
  | a :: b :: c :: l, l', h => exact .dead (by unfold Builtin.unsafeString_; exact .stuck _)
  | [a, b], [], h => exact absurd h.1 (by simp)
  | [a, b], [_], h => exact absurd h.1 (by simp)
  | [a, b], _ :: _ :: _ :: _, h => exact absurd h.1 (by simp)
  | [a, b], [a', b'], h =>
    have ha := h.2 0 a a' rfl rfl
    have hb := h.2 1 b b' rfl rfl
    unfold Builtin.unsafeString_
    cases ha with
    | pnil =>
      dsimp only
      refine SemR.bindE (r_asInt hb) fun R1 h1 n => ?_
      cases ts[0]? with
      | none => exact r_stuck _ _
      | some pt =>
        dsimp only
        refine r_ite (.bind (halts_rt (.error _) trivial) _) fun _ => ?_
        refine r_ite (.bind (.unsupported _ (by simp)) _) fun _ => ?_
        split
        · exact .pure (.string _)
        · exact r_rt (.error _) _ trivial
    | @ptr a0 a0' ha =>
      dsimp only
      refine SemR.bindE (r_asInt hb) fun R1 h1 n => ?_
      cases hts : ts[0]? with
      | none => exact r_stuck _ _
      | some pt =>
        dsimp only
        refine r_ite (.bind (halts_rt (.error _) trivial) _) fun _ => ?_
        refine r_ite (.bind (.unsupported _ (by simp)) _) fun _ => ?_
        split
        · exact .pure (.string _)
        · refine SemR.bind (r_elemOfI pt) fun R2 h2 e e' he => ?_
          obtain ⟨rfl, he⟩ := he
          have ha := (ha.mono h1.sub).mono h2.sub
          exact .ustr ha (hu pt hts e he) fun s => .pure (.string s)
    | _ => exact r_stuck _ _

/-! ### operators -/
theorem r_intArith (op : BinOp) (k : IntKind) (x y : Int) : SemR X (VX X) R (Op.intArith op k x y) (Op.intArith op k x y) := by
  cases op <;> first | exact .pure (.int _ _) | exact r_stuck _ _
theorem r_intCmp (op : BinOp) (x y : Int) : SemR X (VX X) R (Op.intCmp op x y) (Op.intCmp op x y) := by
  cases op <;> first | exact .pure (.bool _) | exact r_stuck _ _
theorem r_shift (op : BinOp) (k : IntKind) (x : Int) (k' : IntKind) (y : Int) : SemR X (VX X) R (Op.shift op k x k' y) (Op.shift op k x k' y) := by
  unfold Op.shift
  split
  · exact r_rt (.error _) _ trivial
  · cases op <;> first | exact .pure (.int _ _) | exact r_stuck _ _
theorem r_stringOp (op : BinOp) (x y : ByteArray) : SemR X (VX X) R (Op.stringOp op x y) (Op.stringOp op x y) := by
  unfold Op.stringOp
  cases op <;> first | exact .pure (.bool _) | exact r_stuck _ _ | skip
  dsimp only
  split
  · exact .dead (.unsupported _ (by simp))
  · exact .pure (.string _)

theorem r_shapeE {A : BR → α → α → Prop} {r r' : Nat} (h : R r r') {f f' : Option (TypeId × Nat) → Sem α} (k : ∀ s s', ShR X s s' → SemR X A R (f s) (f' s')) : SemR X A R ((shape r).bind f) ((shape r').bind f') := .shape h k
theorem r_frozen (hz : X.fz = true) {a a' : Addr} (h : AR R a a') : SemR X EqR R (frozen a) (frozen a') := .frozen hz h fun _ => .pure rfl
theorem r_stringish (hz : X.fz = true) {a a' : Addr} (h : AR R a a') : SemR X EqR R (stringish a) (stringish a') := by
  refine SemR.bindE (r_frozen hz h) fun R1 h1 b => ?_
  cases b with
  | true => exact .pure rfl
  | false =>
    simp only [Bool.false_eq_true, if_false]
    refine r_shapeE (h1.sub _ _ h.1) fun s s' hs => ?_
    have hs := hs.fz hz
    subst hs
    cases s' with
    | none => exact .pure rfl
    | some s => exact r_frozen hz ⟨h1.sub _ _ h.1, rfl, rfl⟩
theorem r_mayBeOne (hz : X.fz = true) {a a' b b' : Addr} (h : AR R a a') (h' : AR R b b') : SemR X EqR R (mayBeOne a b) (mayBeOne a' b') := by
  refine SemR.bindE (r_stringish hz h) fun R1 h1 x => ?_
  refine SemR.bindE (r_stringish hz (h'.mono h1.sub)) fun R2 h2 y => ?_
  have ha := (h.mono h1.sub).mono h2.sub
  have hb := (h'.mono h1.sub).mono h2.sub
  refine SemR.bindE (SemR.shape ha.1 fun s s' hs => .pure (by rw [hs.fz hz])) fun R3 h3 u => ?_
  exact SemR.bindE (SemR.shape (h3.sub _ _ hb.1) fun s s' hs => .pure (by rw [hs.fz hz])) fun R4 h4 v => .pure rfl
theorem AR.eq_iff {N : Nat} (hf : BR.Fine N R) {a a' b b' : Addr} (h : AR R a a') (h' : AR R b b') : (a.block == b.block) = (a'.block == b'.block) ∧ (a == b) = (a' == b') := by
  have hb : (a.block == b.block) = (a'.block == b'.block) := by
    by_cases e : a.block = b.block
    · have this : a'.block = b'.block := hf.fn _ _ _ h.1 (e ▸ h'.1)
      rw [beq_iff_eq.2 e, beq_iff_eq.2 this]
    · have this : a'.block ≠ b'.block := fun e' => e (hf.inj _ _ _ h.1 (e' ▸ h'.1))
      rw [beq_false_of_ne e, beq_false_of_ne this]
  refine ⟨hb, ?_⟩
  obtain ⟨x, o, s⟩ := a; obtain ⟨x', o', s'⟩ := a'; obtain ⟨y, p, u⟩ := b; obtain ⟨y', p', u'⟩ := b'
  obtain ⟨_, h2, h3⟩ := h
  obtain ⟨_, h5, h6⟩ := h'
  subst h2 h3 h5 h6
  have : ∀ (x y o p : Nat) (s u : Option Nat), ((⟨x, o, s⟩ : Addr) == ⟨y, p, u⟩) = ((x == y) && ((o == p) && (s == u))) := by
    intro x y o p s u
    rw [Bool.eq_iff_iff]
    simp
  rw [this, this, hb]
theorem r_sameAddr (hz : X.fz = true) (hf : BR.Fine X.P.globals.size R) {a a' b b' : Addr} (h : AR R a a') (h' : AR R b b') : SemR X EqR R (sameAddr a b) (sameAddr a' b') := by
  obtain ⟨e1, e2⟩ := AR.eq_iff hf h h'
  unfold sameAddr
  rw [e1, e2]
  split
  · exact .pure rfl
  · refine SemR.bindE (r_frozen hz h) fun R1 h1 x => ?_
    refine SemR.bindE (r_frozen hz (h'.mono h1.sub)) fun R2 h2 y => ?_
    have ha := (h.mono h1.sub).mono h2.sub
    have hb := (h'.mono h1.sub).mono h2.sub
    refine r_ite (.bind (.unsupported _ (by simp)) _) fun _ => ?_
    refine SemR.bindE (r_noView ha) fun R3 h3 _ => ?_
    refine SemR.bindE (r_noView (hb.mono h3.sub)) fun R4 h4 _ => ?_
    refine SemR.bindE (r_mayBeOne hz ((ha.mono h3.sub).mono h4.sub) ((hb.mono h3.sub).mono h4.sub)) fun R5 h5 b => ?_
    cases b with
    | true => exact .choose fun _ => .pure rfl
    | false => exact .pure rfl
theorem r_samePointer (hz : X.fz = true) (hf : BR.Fine X.P.globals.size R) {v v' u u' : Value} (hv : VR X.G R v v') (hu : VR X.G R u u') {a a' b b' : Option Addr} (ea : v = .pointer a) (ea' : v' = .pointer a') (eb : u = .pointer b) (eb' : u' = .pointer b') : SemR X EqR R (samePointer a b) (samePointer a' b') := by
  subst ea ea' eb eb'
  cases hv with
  | pnil =>
    cases hu with
    | pnil => exact .pure rfl
    | ptr h => exact .pure rfl
  | ptr h =>
    cases hu with
    | pnil => exact .pure rfl
    | ptr h' => exact r_sameAddr hz hf h h'
end

end Go.Proofs.Ytcgjppacnhmjlaa.Sim
end
