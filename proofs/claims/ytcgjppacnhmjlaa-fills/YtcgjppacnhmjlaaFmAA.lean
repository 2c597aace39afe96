/- Own texts: SimA, SimB, SimU. -/
import GoSem.Step
import Derived.RunT
import Derived.Conc.Own
import GoSem.Core.Layout
import Derived.Conc.Events

section
set_option linter.unusedVariables false
set_option linter.unusedSimpArgs false
set_option linter.unusedSectionVars false
/-! The same program text run over two memories that are the same but for the numbers of their blocks: values, memories, what an operation does. -/
namespace Go.Proofs.Ytcgjppacnhmjlaa.Sim
open Go
set_option linter.unusedVariables false

/-- Which block of the lone memory is which of the other. -/
abbrev BR := Nat → Nat → Prop
def BR.Sub (R R' : BR) : Prop := ∀ a b, R a b → R' a b
theorem BR.Sub.refl (R : BR) : BR.Sub R R := fun _ _ h => h
theorem BR.Sub.trans {R R' R'' : BR} (h : BR.Sub R R') (h' : BR.Sub R' R'') : BR.Sub R R'' := fun a b x => h' a b (h a b x)
def BR.add (R : BR) (r r' : Nat) : BR := fun a b => R a b ∨ (a = r ∧ b = r')
theorem BR.sub_add (R : BR) (r r' : Nat) : BR.Sub R (R.add r r') := fun _ _ h => .inl h

/-- One to one; 'N': as many variables has the program: their blocks stay such. -/
structure BR.Fine (N : Nat) (R : BR) : Prop where
  fn : ∀ a b c, R a b → R a c → b = c
  inj : ∀ a b c, R a c → R b c → a = b
  low : ∀ a b, R a b → (a < N ↔ b < N)
theorem BR.Fine.add {N : Nat} {R : BR} (h : BR.Fine N R) {r r' : Nat} (h1 : ∀ b, ¬ R r b) (h2 : ∀ a, ¬ R a r') (h3 : N ≤ r) (h4 : N ≤ r') : BR.Fine N (R.add r r') := by
  refine ⟨fun a b c x y => ?_, fun a b c x y => ?_, fun a b x => ?_⟩
  · rcases x with x | ⟨rfl, rfl⟩ <;> rcases y with y | ⟨e, rfl⟩
    · exact h.fn _ _ _ x y
    · subst e; exact absurd x (h1 _)
    · exact absurd y (h1 _)
    · rfl
  · rcases x with x | ⟨rfl, rfl⟩ <;> rcases y with y | ⟨rfl, e⟩
    · exact h.inj _ _ _ x y
    · subst e; exact absurd x (h2 _)
    · exact absurd y (h2 _)
    · rfl
  · rcases x with x | ⟨rfl, rfl⟩
    · exact h.low a b x
    · omega
structure BR.Ext (N : Nat) (R R' : BR) : Prop where
  sub : BR.Sub R R'
  fine : BR.Fine N R → BR.Fine N R'
theorem BR.Ext.refl (N : Nat) (R : BR) : BR.Ext N R R := ⟨.refl R, id⟩
theorem BR.Ext.trans {N : Nat} {R R' R'' : BR} (h : BR.Ext N R R') (h' : BR.Ext N R' R'') : BR.Ext N R R'' := ⟨h.sub.trans h'.sub, fun x => h'.fine (h.fine x)⟩

def AR (R : BR) (a a' : Addr) : Prop := R a.block a'.block ∧ a'.off = a.off ∧ a'.spot = a.spot
theorem AR.mono {R R' : BR} {a a' : Addr} (h : AR R a a') (hs : BR.Sub R R') : AR R' a a' := ⟨hs _ _ h.1, h.2⟩
theorem AR.add {R : BR} {a a' : Addr} (h : AR R a a') (n : Nat) : AR R (a.add n) (a'.add n) := by
  unfold Addr.add
  split
  · exact h
  · exact ⟨h.1, by simp [h.2.1], rfl⟩

/-- The same value, but for blocks' numbers. 'G': which functions it may speak of. -/
inductive VR (G : FuncId → Prop) (R : BR) : Value → Value → Prop
  | bool (b : Bool) : VR G R (.bool b) (.bool b)
  | int (k : IntKind) (n : Int) : VR G R (.int k n) (.int k n)
  | string (s : ByteArray) : VR G R (.string s) (.string s)
  | pnil : VR G R (.pointer none) (.pointer none)
  | ptr {a a' : Addr} : AR R a a' → VR G R (.pointer (some a)) (.pointer (some a'))
  | snil (l c : Nat) : VR G R (.slice none l c) (.slice none l c)
  | slice {a a' : Addr} (l c : Nat) : AR R a a' → VR G R (.slice (some a) l c) (.slice (some a') l c)
  | func (f : FuncId) {xs xs' ys ys' : Array Value} : G f → xs.size = xs'.size → (∀ (i : Nat) v v', xs[i]? = some v → xs'[i]? = some v' → VR G R v v') →
      ys.size = ys'.size → (∀ (i : Nat) v v', ys[i]? = some v → ys'[i]? = some v' → VR G R v v') → VR G R (.func (.func f) xs ys) (.func (.func f) xs' ys')
  | nilFunc : VR G R .nilFunc .nilFunc
  | anyN : VR G R .nilIface .nilIface
  | agg {xs xs' : Array Value} : xs.size = xs'.size → (∀ (i : Nat) v v', xs[i]? = some v → xs'[i]? = some v' → VR G R v v') → VR G R (.agg xs) (.agg xs')
  | tuple {xs xs' : Array Value} : xs.size = xs'.size → (∀ (i : Nat) v v', xs[i]? = some v → xs'[i]? = some v' → VR G R v v') → VR G R (.tuple xs) (.tuple xs')

/-- Rows of values. -/
def AVR (G : FuncId → Prop) (R : BR) (xs xs' : Array Value) : Prop := xs.size = xs'.size ∧ ∀ (i : Nat) v v', xs[i]? = some v → xs'[i]? = some v' → VR G R v v'

section
variable {G : FuncId → Prop} {R R' : BR} {v v' : Value} {xs xs' ys ys' : Array Value}

theorem VR.mono (h : VR G R v v') (hs : BR.Sub R R') : VR G R' v v' := by
  induction h with
  | bool b => exact .bool b
  | int k n => exact .int k n
  | string s => exact .string s
  | pnil => exact .pnil
  | ptr h => exact .ptr (h.mono hs)
  | snil l c => exact .snil l c
  | slice l c h => exact .slice l c (h.mono hs)
  | func f hg h1 _ h3 _ ih1 ih2 => exact .func f hg h1 ih1 h3 ih2
  | nilFunc => exact .nilFunc
  | anyN => exact .anyN
  | agg h _ ih => exact .agg h ih
  | tuple h _ ih => exact .tuple h ih

theorem AVR.mono (h : AVR G R xs xs') (hs : BR.Sub R R') : AVR G R' xs xs' := ⟨h.1, fun i v v' a b => (h.2 i v v' a b).mono hs⟩
theorem AVR.nil : AVR G R #[] #[] := ⟨rfl, fun i v v' h => by simp at h⟩
theorem AVR.get (h : AVR G R xs xs') {i : Nat} (hx : xs[i]? = some v) : ∃ v', xs'[i]? = some v' ∧ VR G R v v' := by
  have hi : i < xs.size := (Array.getElem?_eq_some_iff.1 hx).1
  have hi' : i < xs'.size := h.1 ▸ hi
  exact ⟨xs'[i], by simp [hi'], h.2 i _ _ hx (by simp [hi'])⟩
theorem AVR.none (h : AVR G R xs xs') {i : Nat} (hx : xs[i]? = Option.none) : xs'[i]? = Option.none := by
  rw [Array.getElem?_eq_none_iff] at hx ⊢
  rw [← h.1]; exact hx
theorem AVR.getD (h : AVR G R xs xs') (i : Nat) {d d' : Value} (hd : VR G R d d') : VR G R (xs.getD i d) (xs'.getD i d') := by
  rw [Array.getD_eq_getD_getElem?, Array.getD_eq_getD_getElem?]
  cases hx : xs[i]? with
  | none => rw [h.none hx]; exact hd
  | some v => obtain ⟨v', e, hv⟩ := h.get hx; rw [e]; exact hv
theorem AVR.push (h : AVR G R xs xs') (hv : VR G R v v') : AVR G R (xs.push v) (xs'.push v') := by
  refine ⟨by simp [h.1], fun i a b ha hb => ?_⟩
  rw [Array.getElem?_push] at ha hb
  rw [h.1] at ha
  split at ha
  · cases ha; simp_all
  · rename_i hne; rw [if_neg hne] at hb; exact h.2 i a b ha hb
theorem AVR.append (h : AVR G R xs xs') (h' : AVR G R ys ys') : AVR G R (xs ++ ys) (xs' ++ ys') := by
  refine ⟨by simp [h.1, h'.1], fun i a b ha hb => ?_⟩
  rw [Array.getElem?_append] at ha hb
  rw [h.1] at ha
  split at ha
  · rename_i hlt; rw [if_pos hlt] at hb; exact h.2 i a b ha hb
  · rename_i hlt; rw [if_neg hlt] at hb; exact h'.2 _ a b ha hb
theorem AVR.set (h : AVR G R xs xs') (i : Nat) (hv : VR G R v v') : AVR G R (xs.setIfInBounds i v) (xs'.setIfInBounds i v') := by
  refine ⟨by simp [h.1], fun j a b ha hb => ?_⟩
  rw [Array.getElem?_setIfInBounds] at ha hb
  rw [h.1] at ha
  split at ha
  · rename_i e; subst e
    rw [if_pos rfl] at hb
    split at ha
    · rename_i hl; rw [if_pos hl] at hb; cases ha; cases hb; exact hv
    · cases ha
  · rename_i e; rw [if_neg e] at hb; exact h.2 j a b ha hb
theorem AVR.extract (h : AVR G R xs xs') (i j : Nat) : AVR G R (xs.extract i j) (xs'.extract i j) := by
  refine ⟨by simp [h.1], fun k a b ha hb => ?_⟩
  rw [Array.getElem?_extract] at ha hb
  rw [h.1] at ha
  split at ha
  · rename_i hl; rw [if_pos hl] at hb; exact h.2 _ a b ha hb
  · cases ha
theorem AVR.replicate (n : Nat) (hv : VR G R v v') : AVR G R (Array.replicate n v) (Array.replicate n v') := by
  refine ⟨by simp, fun i a b ha hb => ?_⟩
  rw [Array.getElem?_replicate] at ha hb
  split at ha
  · rename_i hl; rw [if_pos hl] at hb; cases ha; cases hb; exact hv
  · cases ha
theorem AVR.agg (h : AVR G R xs xs') : VR G R (.agg xs) (.agg xs') := .agg h.1 h.2
theorem AVR.tuple (h : AVR G R xs xs') : VR G R (.tuple xs) (.tuple xs') := .tuple h.1 h.2
theorem AVR.one (hv : VR G R v v') : AVR G R #[v] #[v'] := by simpa using AVR.nil.push hv
theorem VR.cells (h : VR G R v v') : AVR G R v.cells v'.cells := by
  cases h with
  | agg h1 h2 => exact ⟨h1, h2⟩
  | bool b => exact .one (.bool b)
  | int k n => exact .one (.int k n)
  | string s => exact .one (.string s)
  | pnil => exact .one .pnil
  | ptr h => exact .one (.ptr h)
  | snil l c => exact .one (.snil l c)
  | slice l c h => exact .one (.slice l c h)
  | func f hg h1 h2 h3 h4 => exact .one (.func f hg h1 h2 h3 h4)
  | nilFunc => exact .one .nilFunc
  | anyN => exact .one .anyN
  | tuple h1 h2 => exact .one (.tuple h1 h2)
theorem VR.undef : VR G R Go.undef Go.undef := AVR.nil.tuple
end

/-! ### memories -/
/-- Rows of values, the first of which may end before the other. -/
def AVP (G : FuncId → Prop) (R : BR) (xs xs' : Array Value) : Prop := xs.size ≤ xs'.size ∧ ∀ (i : Nat) v v', xs[i]? = some v → xs'[i]? = some v' → VR G R v v'
theorem AVR.avp {G : FuncId → Prop} {R : BR} {xs xs' : Array Value} (h : AVR G R xs xs') : AVP G R xs xs' := ⟨Nat.le_of_eq h.1, h.2⟩
theorem AVP.avr {G : FuncId → Prop} {R : BR} {xs xs' : Array Value} (h : AVP G R xs xs') (e : xs'.size = xs.size) : AVR G R xs xs' := ⟨e.symm, h.2⟩
theorem AVP.mono {G : FuncId → Prop} {R R' : BR} {xs xs' : Array Value} (h : AVP G R xs xs') (hs : BR.Sub R R') : AVP G R' xs xs' := ⟨h.1, fun i v v' a b => (h.2 i v v' a b).mono hs⟩
theorem AVP.get {G : FuncId → Prop} {R : BR} {xs xs' : Array Value} (h : AVP G R xs xs') {i : Nat} {v : Value} (hx : xs[i]? = some v) : ∃ v', xs'[i]? = some v' ∧ VR G R v v' := by
  have hi : i < xs.size := (Array.getElem?_eq_some_iff.1 hx).1
  have hi' : i < xs'.size := Nat.lt_of_lt_of_le hi h.1
  exact ⟨xs'[i], by simp [hi'], h.2 i _ _ hx (by simp [hi'])⟩
theorem AVP.set {G : FuncId → Prop} {R : BR} {xs xs' : Array Value} {v v' : Value} (h : AVP G R xs xs') (i : Nat) (hv : VR G R v v') : AVP G R (xs.setIfInBounds i v) (xs'.setIfInBounds i v') := by
  refine ⟨by simpa using h.1, fun j a b ha hb => ?_⟩
  rw [Array.getElem?_setIfInBounds] at ha hb
  split at ha
  · rename_i e; subst e
    rw [if_pos rfl] at hb
    split at ha
    · rename_i hl; rw [if_pos (Nat.lt_of_lt_of_le hl h.1)] at hb; cases ha; cases hb; exact hv
    · cases ha
  · rename_i e; rw [if_neg e] at hb; exact h.2 j a b ha hb
/-- What is frozen there is frozen here. -/
def FSub (f' f : Nat × Nat) : Prop := f' = f ∨ f'.1 = f'.2 ∨ (f'.1 < f'.2 ∧ f.1 ≤ f'.1 ∧ f'.2 ≤ f.2)
theorem FSub.freeze {f' f : Nat × Nat} (h : FSub f' f) (o : Nat) {n : Nat} (hn : n ≠ 0) :
    FSub (if f'.1 == f'.2 then (o, o + n) else (min f'.1 o, max f'.2 (o + n))) (if f.1 == f.2 then (o, o + n) else (min f.1 o, max f.2 (o + n))) := by
  rcases h with rfl | h | ⟨h1, h2, h3⟩
  · exact .inl rfl
  · have : (f'.1 == f'.2) = true := by simpa using h
    rw [this]
    simp only [if_true]
    split
    · exact .inl rfl
    · exact .inr (.inr ⟨by simp only; omega, by simp only; omega, by simp only; omega⟩)
  · have e1 : (f'.1 == f'.2) = false := by simp; omega
    have e2 : (f.1 == f.2) = false := by simp; omega
    rw [e1, e2]
    simp only [Bool.false_eq_true, if_false]
    exact .inr (.inr ⟨by simp only; omega, by simp only; omega, by simp only; omega⟩)
theorem FSub.frozen {f' f : Nat × Nat} (h : FSub f' f) {i : Nat} (hi : f'.1 ≤ i ∧ i < f'.2) : f.1 ≤ i ∧ i < f.2 := by
  rcases h with rfl | h | ⟨h1, h2, h3⟩
  · exact hi
  · omega
  · omega
/-- 'S': cells of the lone memory that are frozen: nobody writes there. -/
inductive BlkR (V : TypeId → Prop) (G : FuncId → Prop) (R : BR) (S : Nat → Nat → Prop) (a : Nat) : Obj → Obj → Prop
  | cells {c c' : Array Value} {e : TypeId} {f f' : Nat × Nat} : AVP G R c c' → ((∃ i, ¬ S a i) → FSub f' f) → ((∀ i, ¬ S a i) → f' = f ∧ c'.size = c.size) → (∀ i, S a i → i < c.size → f.1 ≤ i ∧ i < f.2) → BlkR V G R S a (.cells c e f) (.cells c' e f')
  | number {x x' : Addr} {l : Bool} : AR R x x' → (∀ i, ¬ S a i) → BlkR V G R S a (.number x l) (.number x' l)
  | view {x x' : Addr} {u : TypeId} : V u → AR R x x' → (∀ i, ¬ S a i) → BlkR V G R S a (.view x u) (.view x' u)
theorem BlkR.mono {V : TypeId → Prop} {G : FuncId → Prop} {R R' : BR} {S : Nat → Nat → Prop} {a : Nat} {o o' : Obj} (h : BlkR V G R S a o o') (hs : BR.Sub R R') : BlkR V G R' S a o o' := by
  cases h with
  | cells h1 h0 h2 h3 => exact .cells (h1.mono hs) h0 h2 h3
  | number h1 h2 => exact .number (h1.mono hs) h2
  | view h0 h1 h2 => exact .view h0 (h1.mono hs) h2
structure WR (V : TypeId → Prop) (N : Nat) (G : FuncId → Prop) (R : BR) (S : Nat → Nat → Prop) (w w' : World) : Prop where
  fine : BR.Fine N R
  low : N ≤ w.heap.size ∧ N ≤ w'.heap.size
  sl : ∀ a i, S a i → a < w.heap.size
  blk : ∀ a b, R a b → ∃ o o', w.heap[a]? = some o ∧ w'.heap[b]? = some o' ∧ BlkR V G R S a o o'

section
variable {V : TypeId → Prop} {N : Nat} {G : FuncId → Prop} {R : BR} {S : Nat → Nat → Prop} {w w' : World}
theorem WR.lt (h : WR V N G R S w w') {a b : Nat} (hr : R a b) : a < w.heap.size ∧ b < w'.heap.size := by
  obtain ⟨o, o', h1, h2, _⟩ := h.blk a b hr
  exact ⟨(Array.getElem?_eq_some_iff.1 h1).1, (Array.getElem?_eq_some_iff.1 h2).1⟩
theorem WR.shape (h : WR V N G R S w w') {a b : Nat} (hr : R a b) : w'.shape? b = w.shape? a ∨ (∃ i, S a i) ∧ ∃ e n n', w.shape? a = some (e, n) ∧ w'.shape? b = some (e, n') ∧ n ≤ n' := by
  obtain ⟨o, o', h1, h2, h3⟩ := h.blk a b hr
  cases h3 with
  | @cells c c' e f f' h3 _ h4 =>
    by_cases hs : ∃ i, S a i
    · exact .inr ⟨hs, e, c.size, c'.size, by simp [World.shape?, h1], by simp [World.shape?, h2], h3.1⟩
    · left; simp [World.shape?, h1, h2, (h4 fun i x => hs ⟨i, x⟩).2]
  | number => left; simp [World.shape?, h1, h2]
  | view => left; simp [World.shape?, h1, h2]
theorem WR.cell (h : WR V N G R S w w') {a a' : Addr} (ha : AR R a a') {v : Value} (hv : w.cell? a = some v) : ∃ v', w'.cell? a' = some v' ∧ VR G R v v' := by
  obtain ⟨o, o', h1, h2, h3⟩ := h.blk _ _ ha.1
  unfold World.cell? at hv ⊢
  rw [h1] at hv; rw [h2]
  cases h3 with
  | number => cases hv
  | view => cases hv
  | cells h3 =>
    simp only [ha.2.2, ha.2.1] at hv ⊢
    split at hv
    · cases hv
    · rename_i hs; simp only [hs]; exact h3.get hv
theorem WR.frozen (h : WR V N G R S w w') {a a' : Addr} (ha : AR R a a') (hs : ∀ i, ¬ S a.block i) : w'.frozen? a' = w.frozen? a := by
  obtain ⟨o, o', h1, h2, h3⟩ := h.blk _ _ ha.1
  unfold World.frozen?
  rw [h1, h2]
  cases h3 with
  | cells _ _ h4 => rw [(h4 hs).1]; simp [ha.2.1]
  | number => rfl
  | view => rfl
theorem WR.thawed (h : WR V N G R S w w') {a a' : Addr} (ha : AR R a a') (hs : ¬ S a.block a.off) (hf : w.frozen? a = false) : w'.frozen? a' = false := by
  obtain ⟨o, o', h1, h2, h3⟩ := h.blk _ _ ha.1
  unfold World.frozen? at hf ⊢
  rw [h1] at hf
  rw [h2]
  cases h3 with
  | cells _ h0 =>
    simp only at hf ⊢
    rw [Bool.eq_false_iff] at hf ⊢
    intro e
    apply hf
    simp only [Bool.and_eq_true, decide_eq_true_eq] at e ⊢
    rw [ha.2.1] at e
    exact (h0 ⟨_, hs⟩).frozen e
  | number => rfl
  | view => rfl
theorem WR.sealed (h : WR V N G R S w w') {a a' : Addr} (ha : AR R a a') (hs : S a.block a.off) {v : Value} (hv : w.cell? a = some v) : w.frozen? a = true := by
  obtain ⟨o, o', h1, h2, h3⟩ := h.blk _ _ ha.1
  unfold World.cell? at hv
  rw [h1] at hv
  cases h3 with
  | number _ hn => exact absurd hs (hn _)
  | view _ _ hn => exact absurd hs (hn _)
  | cells _ _ _ h5 =>
    simp only at hv
    split at hv
    · cases hv
    · have := h5 a.off hs (Array.getElem?_eq_some_iff.1 hv).1
      unfold World.frozen?
      rw [h1]
      simp [this]
end

/-! ### what a step lists -/
def LocR (S : Nat → Nat → Prop) (R : BR) (wr : Bool) : Loc → Loc → Prop
  | .cell a, .cell a' => AR R a a' ∧ (wr = true → ¬ S a.block a.off)
  | .obj r, .obj r' => R r r' ∧ wr = false
  | .mark m, .mark m' => m = m' ∧ (m = .noRoom ∨ ∃ f, m = .extern f)
  | _, _ => False
structure EvR (S : Nat → Nat → Prop) (R : BR) (e e' : Event) : Prop where
  wr : e'.write = e.write
  sy : e'.sync = e.sync
  loc : LocR S R e.write e.loc e'.loc
theorem LocR.mono {S : Nat → Nat → Prop} {R R' : BR} {b : Bool} {l l' : Loc} (h : LocR S R b l l') (hs : BR.Sub R R') : LocR S R' b l l' := by
  cases l <;> cases l' <;> simp only [LocR] at h ⊢ <;> first | exact h.elim | exact h | exact ⟨hs _ _ h.1, h.2⟩ | exact ⟨h.1.mono hs, h.2⟩
theorem EvR.mono {S : Nat → Nat → Prop} {R R' : BR} {e e' : Event} (h : EvR S R e e') (hs : BR.Sub R R') : EvR S R' e e' := ⟨h.wr, h.sy, h.loc.mono hs⟩
theorem EvR.cell {S : Nat → Nat → Prop} {R : BR} {a a' : Addr} (ha : AR R a a') (wr sy : Bool) (h : wr = true → ¬ S a.block a.off) : EvR S R ⟨.cell a, wr, sy⟩ ⟨.cell a', wr, sy⟩ := ⟨rfl, rfl, ha, h⟩
inductive Evs (S : Nat → Nat → Prop) (R : BR) : List Event → List Event → Prop
  | nil : Evs S R [] []
  | cons {e e' : Event} {es es' : List Event} : EvR S R e e' → Evs S R es es' → Evs S R (e :: es) (e' :: es')
theorem Evs.mono {S : Nat → Nat → Prop} {R R' : BR} {es es' : List Event} (h : Evs S R es es') (hs : BR.Sub R R') : Evs S R' es es' := by
  induction h with
  | nil => exact .nil
  | cons h _ ih => exact .cons (h.mono hs) ih
theorem Evs.app {S : Nat → Nat → Prop} {R : BR} {es es' fs fs' : List Event} (h : Evs S R es es') (h' : Evs S R fs fs') : Evs S R (es ++ fs) (es' ++ fs') := by
  induction h with
  | nil => exact h'
  | cons h _ ih => exact .cons h ih
def EvA (S : Nat → Nat → Prop) (R : BR) (es es' : Array Event) : Prop := Evs S R es.toList es'.toList
theorem EvA.push {S : Nat → Nat → Prop} {R : BR} {es es' : Array Event} (h : EvA S R es es') {e e' : Event} (he : EvR S R e e') : EvA S R (es.push e) (es'.push e') := by
  unfold EvA at h ⊢
  simp only [Array.toList_push]
  exact h.app (.cons he .nil)
theorem EvA.mono {S : Nat → Nat → Prop} {R R' : BR} {es es' : Array Event} (h : EvA S R es es') (hs : BR.Sub R R') : EvA S R' es es' := Evs.mono h hs

/-! ### what a run does to the two memories -/
/-- What is sealed stays. -/
def Kept (S : Nat → Nat → Prop) (a : Nat) (w w1 : World) (b : Nat) : Prop := ∃ c e f c1 f1, w.heap[b]? = some (.cells c e f) ∧ w1.heap[b]? = some (.cells c1 e f1) ∧ c1.size = c.size ∧ ∀ i, S a i → c1[i]? = c[i]?
theorem Kept.trans {S : Nat → Nat → Prop} {a b : Nat} {w w1 w2 : World} (h : Kept S a w w1 b) (h' : Kept S a w1 w2 b) : Kept S a w w2 b := by
  obtain ⟨c, e, f, c1, f1, h1, h2, h5, h6⟩ := h
  obtain ⟨c2, e2, f2, c3, f3, h3, h4, h7, h8⟩ := h'
  rw [h2] at h3; cases h3
  exact ⟨c, e, f, c3, f3, h1, h4, h7.trans h5, fun j hj => (h8 j hj).trans (h6 j hj)⟩
structure Eff (B : TypeId → Prop) (S : Nat → Nat → Prop) (R R1 : BR) (w w' w1 w1' : World) : Prop where
  sub : BR.Sub R R1
  new : ∀ a b, R1 a b → R a b ∨ (w.heap.size ≤ a ∧ w'.heap.size ≤ b)
  sz : w.heap.size ≤ w1.heap.size
  sz' : w'.heap.size ≤ w1'.heap.size
  fresh : ∀ b, w'.heap.size ≤ b → b < w1'.heap.size → ∃ a, R1 a b
  out : ∀ b, b < w'.heap.size → (∀ a, ¬ R a b) → w1'.heap[b]? = w'.heap[b]?
  sld : ∀ a b i, R a b → S a i → Kept S a w' w1' b ∧ Kept S a w w1 a
  ty : ∀ a b, R a b → ∀ c t f, w'.heap[b]? = some (.cells c t f) → ∃ c1 f1, w1'.heap[b]? = some (.cells c1 t f1) ∧ c1.size = c.size ∧ (f1 = f ∨ B t)
  tape : w1.tape = w.tape
  tape' : w1'.tape = w'.tape
  os' : w1'.os = w'.os
  output' : w1'.output = w'.output
  drawn : ∃ d, w1.drawn = w.drawn + d ∧ w1'.drawn = w'.drawn + d

theorem Eff.refl {B : TypeId → Prop} {V : TypeId → Prop} {N : Nat} {G : FuncId → Prop} {R : BR} {S : Nat → Nat → Prop} {w w' : World} (h : WR V N G R S w w') : Eff B S R R w w' w w' :=
  ⟨.refl R, fun _ _ h => .inl h, Nat.le_refl _, Nat.le_refl _, fun b h1 h2 => by omega, fun _ _ _ => rfl,
   fun a b i hr hs => by
     obtain ⟨o, o', h1, h2, h3⟩ := h.blk a b hr
     cases h3 with
     | cells => exact ⟨⟨_, _, _, _, _, h2, h2, rfl, fun _ _ => rfl⟩, _, _, _, _, _, h1, h1, rfl, fun _ _ => rfl⟩
     | number _ hn => exact absurd hs (hn _)
     | view _ _ hn => exact absurd hs (hn _), fun a b _ c t f hc => ⟨c, f, hc, rfl, .inl rfl⟩, rfl, rfl, rfl, rfl, 0, rfl, rfl⟩
theorem Eff.trans {B : TypeId → Prop} {S : Nat → Nat → Prop} {R R1 R2 : BR} {w w' w1 w1' w2 w2' : World} (h : Eff B S R R1 w w' w1 w1') (h' : Eff B S R1 R2 w1 w1' w2 w2') : Eff B S R R2 w w' w2 w2' := by
  refine ⟨h.sub.trans h'.sub, fun a b hr => ?_, Nat.le_trans h.sz h'.sz, Nat.le_trans h.sz' h'.sz', fun b h1 h2 => ?_, fun b hb hn => ?_, fun a b i hr hs => ?_, fun a b hr c t f hc => ?_, h'.tape.trans h.tape, h'.tape'.trans h.tape', h'.os'.trans h.os', h'.output'.trans h.output', ?_⟩
  · rcases h'.new a b hr with x | ⟨x, y⟩
    · exact h.new a b x
    · exact .inr ⟨Nat.le_trans h.sz x, Nat.le_trans h.sz' y⟩
  · rcases Nat.lt_or_ge b w1'.heap.size with hlt | hge
    · obtain ⟨a, ha⟩ := h.fresh b h1 hlt; exact ⟨a, h'.sub _ _ ha⟩
    · exact h'.fresh b hge h2
  · rw [h'.out b (Nat.lt_of_lt_of_le hb h.sz') fun a ha => ?_]
    · exact h.out b hb hn
    · rcases h.new a b ha with x | ⟨_, y⟩
      · exact hn a x
      · omega
  · have x := h.sld a b i hr hs
    have y := h'.sld a b i (h.sub _ _ hr) hs
    exact ⟨x.1.trans y.1, x.2.trans y.2⟩
  · obtain ⟨c1, f1, h1, h2, h3⟩ := h.ty a b hr c t f hc
    obtain ⟨c2, f2, h4, h5, h6⟩ := h'.ty a b (h.sub _ _ hr) c1 t f1 h1
    refine ⟨c2, f2, h4, h5.trans h2, ?_⟩
    rcases h6 with rfl | h6
    · exact h3
    · exact .inr h6
  · obtain ⟨d, h1, h2⟩ := h.drawn
    obtain ⟨d', h3, h4⟩ := h'.drawn
    exact ⟨d + d', by omega, by omega⟩

end Go.Proofs.Ytcgjppacnhmjlaa.Sim
end

section
set_option linter.unusedVariables false
set_option linter.unusedSimpArgs false
set_option linter.unusedSectionVars false
/-! Operations that do the same over the two memories: 'SemR'; it is sound. -/
namespace Go.Proofs.Ytcgjppacnhmjlaa.Sim
open Go
set_option linter.unusedVariables false

structure Ctx where
  P : Program
  G : FuncId → Prop
  /-- May questions about frozen cells be asked? (Then nothing is sealed.) -/
  fz : Bool
  /-- May memory be seen as another type? (Then the two memories are one.) -/
  vw : TypeId → Prop

def Dead : Halt → Prop
  | .panic _ | .stuck _ => True
  | .unsupported (.initOrder _) => False
  | .unsupported _ => True
  | _ => False

def Halts (P : Program) {α : Type} (s : Sem α) : Prop := ∀ w, ∃ h w', s.run P w = .halt h w' ∧ Dead h

/-- A text out of bytes. -/
def ustr {α : Type} (a : Addr) (e : TypeId) (n : Nat) (k : ByteArray → Sem α) : Sem α :=
  (variablesAt a e n).bind fun b => if b = true then (loadBytes a .empty n).bind fun s => .freeze a n (k s) else unsupported (.unsafePointer "String: not so many bytes at ptr")
/-- Rows of this type may hold bytes. -/
def ByteTy (P : Program) (t : TypeId) : Prop := ∃ c off e n, P.underlying e = some (.int .u8) ∧ liesAt P P.depth t c off e n = true
/-- What is told of the size of a block. -/
def ShR (X : Ctx) (s s' : Option (TypeId × Nat)) : Prop := s' = s ∨ (X.fz = false ∧ (∀ u, ¬ X.vw u) ∧ ∃ e n n', s = some (e, n) ∧ s' = some (e, n') ∧ n ≤ n')
theorem ShR.fz {X : Ctx} {s s' : Option (TypeId × Nat)} (h : ShR X s s') (hz : X.fz = true) : s' = s := h.elim id fun x => by rw [hz] at x; cases x.1
theorem ShR.vw {X : Ctx} {s s' : Option (TypeId × Nat)} (h : ShR X s s') {u : TypeId} (hu : X.vw u) : s' = s := h.elim id fun x => absurd hu (x.2.1 u)

inductive SemR (X : Ctx) {α β : Type} (A : BR → α → β → Prop) : BR → Sem α → Sem β → Prop
  | pure {R : BR} {a : α} {b : β} : A R a b → SemR X A R (.pure a) (.pure b)
  | load {R : BR} {m : Mode} {a a' : Addr} {k : Value → Sem α} {k' : Value → Sem β} : AR R a a' → (∀ v v', VR X.G R v v' → SemR X A R (k v) (k' v')) → SemR X A R (.load m a k) (.load m a' k')
  | store {R : BR} {m : Mode} {a a' : Addr} {v v' : Value} {k : Sem α} {k' : Sem β} : AR R a a' → VR X.G R v v' → SemR X A R k k' → SemR X A R (.store m a v k) (.store m a' v' k')
  | new {R : BR} {c c' : Array Value} {e : TypeId} {k : Nat → Sem α} {k' : Nat → Sem β} : AVR X.G R c c' → (∀ r r', (∀ b, ¬ R r b) → (∀ a, ¬ R a r') → X.P.globals.size ≤ r → X.P.globals.size ≤ r' → SemR X A (R.add r r') (k r) (k' r')) → SemR X A R (.new (.cells c e) k) (.new (.cells c' e) k')
  | newN {R : BR} {x x' : Addr} {l : Bool} {k : Nat → Sem α} {k' : Nat → Sem β} : AR R x x' → (∀ r r', (∀ b, ¬ R r b) → (∀ a, ¬ R a r') → X.P.globals.size ≤ r → X.P.globals.size ≤ r' → SemR X A (R.add r r') (k r) (k' r')) → SemR X A R (.new (.number x l) k) (.new (.number x' l) k')
  | newV {R : BR} {x x' : Addr} {u : TypeId} {k : Nat → Sem α} {k' : Nat → Sem β} : X.vw u → AR R x x' → (∀ r r', (∀ b, ¬ R r b) → (∀ a, ¬ R a r') → X.P.globals.size ≤ r → X.P.globals.size ≤ r' → SemR X A (R.add r r') (k r) (k' r')) → SemR X A R (.new (.view x u) k) (.new (.view x' u) k')
  | getN {R : BR} {r r' : Nat} {k : Obj → Sem α} {k' : Obj → Sem β} : R r r' → (∀ x x' l, AR R x x' → SemR X A R (k (.number x l)) (k' (.number x' l))) → (∀ x x' u, X.vw u → AR R x x' → SemR X A R (k (.view x u)) (k' (.view x' u))) → SemR X A R (.getObj r k) (.getObj r' k')
  | shape {R : BR} {r r' : Nat} {k : Option (TypeId × Nat) → Sem α} {k' : Option (TypeId × Nat) → Sem β} : R r r' → (∀ s s', ShR X s s' → SemR X A R (k s) (k' s')) → SemR X A R (.shape r k) (.shape r' k')
  | ustr {R : BR} {a a' : Addr} {e : TypeId} {n : Nat} {k : ByteArray → Sem α} {k' : ByteArray → Sem β} : AR R a a' → X.P.underlying e = some (.int .u8) → (∀ s, SemR X A R (k s) (k' s)) → SemR X A R (ustr a e n k) (ustr a' e n k')
  | frozen {R : BR} {a a' : Addr} {k : Bool → Sem α} {k' : Bool → Sem β} : X.fz = true → AR R a a' → (∀ b, SemR X A R (k b) (k' b)) → SemR X A R (.frozen a k) (.frozen a' k')
  | choose {R : BR} {q : Question} {k : Nat → Sem α} {k' : Nat → Sem β} : (∀ n, SemR X A R (k n) (k' n)) → SemR X A R (.choose q k) (.choose q k')
  | program {R : BR} {k : Program → Sem α} {k' : Program → Sem β} : SemR X A R (k X.P) (k' X.P) → SemR X A R (.program k) (.program k')
  | mark {R : BR} {m : Mark} {k : Sem α} {k' : Sem β} : (m = .noRoom ∨ ∃ f, m = .extern f) → SemR X A R k k' → SemR X A R (.mark m k) (.mark m k')
  | dead {R : BR} {s : Sem α} {s' : Sem β} : Halts X.P s → SemR X A R s s'

theorem run_bind (P : Program) {α β : Type} (f : α → Sem β) : ∀ (s : Sem α) (w : World), (s.bind f).run P w = match s.run P w with | .ok a w' => (f a).run P w' | .halt h w' => .halt h w' := by
  intro s
  induction s with
  | pure a => intro w; rfl
  | load m a k ih =>
    intro w
    simp only [Sem.bind, Sem.run]
    cases w.cell? a with
    | some v => exact ih v w
    | none => dsimp only; cases w.farLoad P a (m == Mode.atomic) with
      | ok x => exact ih x.1 w
      | error h => rfl
  | store m a v k ih =>
    intro w
    have key : (match w.cell? a with
        | some _ => if w.frozen? a then Result.halt (.unsupported (.unsafePointer "a write to bytes that a string shares")) w else (k.bind f).run P (w.setCell a v)
        | none => match w.farStore P a v (m == Mode.atomic) with
          | .ok (w, _) => (k.bind f).run P w
          | .error h => Result.halt h w) = (match (match w.cell? a with
        | some _ => if w.frozen? a then Result.halt (.unsupported (.unsafePointer "a write to bytes that a string shares")) w else k.run P (w.setCell a v)
        | none => match w.farStore P a v (m == Mode.atomic) with
          | .ok (w, _) => k.run P w
          | .error h => Result.halt h w) with | .ok a w' => (f a).run P w' | .halt h w' => .halt h w') := by
      cases w.cell? a with
      | some x => dsimp only; split
                  · rfl
                  · exact ih _
      | none => dsimp only; cases w.farStore P a v (m == Mode.atomic) with
        | ok x => exact ih x.1
        | error h => rfl
    cases v <;> first | rfl | exact key
  | new o k ih => intro w; exact ih _ _
  | shape r k ih => intro w; exact ih _ _
  | freeze a n k ih => intro w; exact ih _
  | frozen a k ih => intro w; exact ih _ _
  | getObj r k ih =>
    intro w
    simp only [Sem.bind, Sem.run]
    cases w.heap[r]? with
    | none => rfl
    | some o => cases o <;> first | rfl | exact ih _ _
  | setObj r o k ih =>
    intro w
    simp only [Sem.bind, Sem.run]
    cases w.heap[r]? with
    | none => rfl
    | some o => cases o <;> first | rfl | exact ih _
  | choose q k ih =>
    intro w
    simp only [Sem.bind, Sem.run]
    split
    · exact ih _ _
    · exact ih _ _
  | sys c k ih => intro w; exact ih _ _
  | program k ih => intro w; exact ih _ _
  | mark m k ih => intro w; exact ih _
  | halt h => intro w; rfl

theorem sbind_assoc {α β γ : Type} (f : α → Sem β) (g : β → Sem γ) : ∀ s : Sem α, (s.bind f).bind g = s.bind fun a => (f a).bind g
  | .pure a => rfl
  | .load m a k => by simp only [Sem.bind, sbind_assoc f g]
  | .store m a v k => by simp only [Sem.bind, sbind_assoc f g]
  | .new o k => by simp only [Sem.bind, sbind_assoc f g]
  | .shape r k => by simp only [Sem.bind, sbind_assoc f g]
  | .freeze a n k => by simp only [Sem.bind, sbind_assoc f g]
  | .frozen a k => by simp only [Sem.bind, sbind_assoc f g]
  | .getObj r k => by simp only [Sem.bind, sbind_assoc f g]
  | .setObj r o k => by simp only [Sem.bind, sbind_assoc f g]
  | .choose q k => by simp only [Sem.bind, sbind_assoc f g]
  | .sys c k => by simp only [Sem.bind, sbind_assoc f g]
  | .program k => by simp only [Sem.bind, sbind_assoc f g]
  | .mark m k => by simp only [Sem.bind, sbind_assoc f g]
  | .halt h => rfl
theorem ustr_bind {α β : Type} (a : Addr) (e : TypeId) (n : Nat) (k : ByteArray → Sem α) (f : α → Sem β) : (ustr a e n k).bind f = ustr a e n fun s => (k s).bind f := by
  unfold ustr
  rw [sbind_assoc]
  congr 1
  funext b
  cases b with
  | true => simp only [if_true]; rw [sbind_assoc]; rfl
  | false => rfl

section
variable {X : Ctx} {α β γ δ : Type}

theorem Halts.bind {P : Program} {s : Sem α} (h : Halts P s) (f : α → Sem β) : Halts P (s.bind f) := fun w => by
  obtain ⟨x, w', h1, h2⟩ := h w
  exact ⟨x, w', by rw [run_bind, h1], h2⟩
theorem Halts.stuck {P : Program} (why : String) : Halts P (Go.stuck why : Sem α) := fun w => ⟨_, w, rfl, trivial⟩
theorem Halts.panic {P : Program} (v : Value) : Halts P (Go.goPanic v : Sem α) := fun w => ⟨_, w, rfl, trivial⟩
theorem Halts.unsupported {P : Program} (u : Unsupported) (h : ∀ g, u ≠ .initOrder g) : Halts P (Go.unsupported u : Sem α) := fun w => ⟨_, w, rfl, by unfold Dead; cases u <;> first | trivial | exact absurd rfl (h _)⟩

theorem SemR.bind {A : BR → α → β → Prop} {B : BR → γ → δ → Prop} {R : BR} {s : Sem α} {s' : Sem β} {f : α → Sem γ} {f' : β → Sem δ} (h : SemR X A R s s') :
    (∀ R', BR.Ext X.P.globals.size R R' → ∀ a b, A R' a b → SemR X B R' (f a) (f' b)) → SemR X B R (s.bind f) (s'.bind f') := by
  induction h with
  | pure h => intro k; exact k _ (.refl _ _) _ _ h
  | load ha _ ih => intro k; exact .load ha fun v v' hv => ih v v' hv k
  | store ha hv _ ih => intro k; exact .store ha hv (ih k)
  | new hc _ ih => intro k; exact .new hc fun r r' h1 h2 h3 h4 => ih r r' h1 h2 h3 h4 fun R' hs => k R' (BR.Ext.trans ⟨BR.sub_add _ r r', fun x => x.add h1 h2 h3 h4⟩ hs)
  | newN hc _ ih => intro k; exact .newN hc fun r r' h1 h2 h3 h4 => ih r r' h1 h2 h3 h4 fun R' hs => k R' (BR.Ext.trans ⟨BR.sub_add _ r r', fun x => x.add h1 h2 h3 h4⟩ hs)
  | newV hz hc _ ih => intro k; exact .newV hz hc fun r r' h1 h2 h3 h4 => ih r r' h1 h2 h3 h4 fun R' hs => k R' (BR.Ext.trans ⟨BR.sub_add _ r r', fun x => x.add h1 h2 h3 h4⟩ hs)
  | getN hr _ _ ih ih2 => intro k; exact .getN hr (fun x x' l hx => ih x x' l hx k) fun x x' u hz hx => ih2 x x' u hz hx k
  | shape hr _ ih => intro k; exact .shape hr fun s s' hs => ih s s' hs k
  | ustr ha hu _ ih => intro k; rw [ustr_bind, ustr_bind]; exact .ustr ha hu fun s => ih s k
  | frozen hz ha _ ih => intro k; exact .frozen hz ha fun b => ih b k
  | choose _ ih => intro k; exact .choose fun n => ih n k
  | program _ ih => intro k; exact .program (ih k)
  | mark hm _ ih => intro k; exact .mark hm (ih k)
  | dead hd => intro _; exact .dead (hd.bind f)
end

theorem runT_drawn (P : Program) {α : Type} : ∀ (s : Sem α) (w : World) {a : α} {w1 : World}, s.run P w = .ok a w1 → w.drawn ≤ w1.drawn := by
  have ask : ∀ {β : Type} (x : Ask β) (w : World), w.drawn ≤ (w.ask x).2.drawn := by
    intro β x
    induction x with
    | done a => intro w; exact Nat.le_refl _
    | ask q r k ih =>
      intro w
      simp only [World.ask]
      split
      · exact ih _ _
      · exact Nat.le_trans (Nat.le_succ _) (ih _ { w with drawn := w.drawn + 1 })
  have sysl : ∀ (w : World) (c : Sys), w.drawn ≤ (w.sys c).2.drawn := by
    intro w c
    unfold World.sys
    have := ask (Kernel.perform c w.os) w
    split
    · exact Nat.le_refl _
    · rename_i e; rw [e] at this; exact this
  have far : ∀ (w w2 : World) (a : Addr) (v : Value) (b : Bool) (l : List Addr), w.farStore P a v b = .ok (w2, l) → w.drawn ≤ w2.drawn := by
    intro w w2 a v b l h
    unfold World.farStore at h
    split at h
    · split at h
      · rename_i e
        cases h
        unfold World.viewStore at e
        simp only [bind, Except.bind, pure, Except.pure] at e
        repeat' split at e
        all_goals first | cases e | skip
        all_goals exact Nat.le_refl _
      · cases h
    · cases h
  intro s
  induction s with
  | pure a => intro w a w1 h; cases h; exact Nat.le_refl _
  | load m a k ih =>
    intro w x w1 h
    simp only [Sem.run] at h
    split at h
    · exact ih _ _ h
    · split at h
      · exact ih _ _ h
      · cases h
  | store m a v k ih =>
    intro w x w1 h
    have key : (match w.cell? a with
        | some _ => if w.frozen? a then Result.halt (.unsupported (.unsafePointer "a write to bytes that a string shares")) w else k.run P (w.setCell a v)
        | none => match w.farStore P a v (m == Mode.atomic) with
          | .ok (w, _) => k.run P w
          | .error h => Result.halt h w) = .ok x w1 → w.drawn ≤ w1.drawn := by
      intro h
      split at h
      · split at h
        · cases h
        · exact ih (w.setCell a v) h
      · split at h
        · rename_i w2 l e; exact Nat.le_trans (far _ _ _ _ _ _ e) (ih _ h)
        · cases h
    cases v <;> first | exact key h | (simp only [Sem.run] at h; cases h)
  | new o k ih => intro w x w1 h; exact ih _ { w with heap := w.heap.push o } h
  | shape r k ih => intro w x w1 h; exact ih _ _ h
  | freeze a n k ih =>
    intro w x w1 h
    have := ih _ h
    unfold World.freeze at this
    split at this <;> exact this
  | frozen a k ih => intro w x w1 h; exact ih _ _ h
  | getObj r k ih =>
    intro w x w1 h
    simp only [Sem.run] at h
    split at h
    · cases h
    · exact ih _ _ h
    · cases h
  | setObj r o k ih =>
    intro w x w1 h
    simp only [Sem.run] at h
    split at h
    · cases h
    · exact ih { w with heap := w.heap.setIfInBounds r o } h
    · cases h
  | choose q k ih =>
    intro w x w1 h
    simp only [Sem.run] at h
    split at h
    · exact ih _ _ h
    · exact Nat.le_trans (Nat.le_succ _) (ih _ { w with drawn := w.drawn + 1 } h)
  | sys c k ih => intro w x w1 h; exact Nat.le_trans (sysl w c) (ih _ _ h)
  | program k ih => intro w x w1 h; exact ih _ _ h
  | mark m k ih => intro w x w1 h; exact ih _ h
  | halt h => intro w x w1 h'; cases h'

section
variable {B V : TypeId → Prop} {N : Nat} {G : FuncId → Prop} {R : BR} {S : Nat → Nat → Prop} {w w' : World} {a a' : Addr} {v v' : Value}

theorem setCell_get (w : World) (a : Addr) (v : Value) (b : Nat) : (w.setCell a v).heap[b]? = if a.block = b then (w.heap[b]?).map (fun
      | .cells c elem frozen => .cells (if a.spot.isSome then c else c.setIfInBounds a.off v) elem frozen
      | o => o) else w.heap[b]? := by
  unfold World.setCell
  rw [Array.getElem?_modify]
  split
  · congr 1
  · rfl
theorem setCell_size (w : World) (a : Addr) (v : Value) : (w.setCell a v).heap.size = w.heap.size := by
  unfold World.setCell; simp

theorem WR.set (h : WR V N G R S w w') (ha : AR R a a') (hv : VR G R v v') {v0 : Value} (hc : w.cell? a = some v0) (hf : w.frozen? a = false) :
    WR V N G R S (w.setCell a v) (w'.setCell a' v') ∧ Eff B S R R w w' (w.setCell a v) (w'.setCell a' v') := by
  have hns : ¬ S a.block a.off := fun hs => by rw [h.sealed ha hs hc] at hf; cases hf
  refine ⟨⟨h.fine, by rw [setCell_size, setCell_size]; exact h.low, fun x i hx => by rw [setCell_size]; exact h.sl x i hx, fun x y hr => ?_⟩, .refl R, fun _ _ h => .inl h, by rw [setCell_size]; exact Nat.le_refl _, by rw [setCell_size]; exact Nat.le_refl _,
    fun b h1 h2 => by rw [setCell_size] at h2; omega, fun b hb hn => ?_, fun x y i hr hs => ?_, fun x y hr c t f hcc => by
      rw [setCell_get]
      split
      · rw [hcc]; exact ⟨_, f, rfl, by split <;> simp, .inl rfl⟩
      · exact ⟨c, f, hcc, rfl, .inl rfl⟩, rfl, rfl, rfl, rfl, 0, rfl, rfl⟩
  · obtain ⟨o, o', h1, h2, h3⟩ := h.blk x y hr
    by_cases hx : a.block = x
    · subst hx
      have hy : a'.block = y := h.fine.fn _ _ _ ha.1 hr
      subst hy
      cases h3 with
      | cells h3 h0 h4 h5 =>
        refine ⟨_, _, by rw [setCell_get, if_pos rfl, h1]; rfl, by rw [setCell_get, if_pos rfl, h2]; rfl, .cells ?_ h0 (fun hn => ⟨(h4 hn).1, by have := (h4 hn).2; split <;> split <;> simpa using this⟩) fun i hs hi => h5 i hs (by split at hi <;> simpa using hi)⟩
        rw [ha.2.2, ha.2.1]
        split
        · exact h3
        · exact h3.set _ hv
      | number h3 h4 => exact ⟨_, _, by rw [setCell_get, if_pos rfl, h1]; rfl, by rw [setCell_get, if_pos rfl, h2]; rfl, .number h3 h4⟩
      | view h0 h3 h4 => exact ⟨_, _, by rw [setCell_get, if_pos rfl, h1]; rfl, by rw [setCell_get, if_pos rfl, h2]; rfl, .view h0 h3 h4⟩
    · have hy : a'.block ≠ y := fun e => hx (h.fine.inj _ _ _ ha.1 (e ▸ hr))
      exact ⟨o, o', by rw [setCell_get, if_neg hx]; exact h1, by rw [setCell_get, if_neg hy]; exact h2, h3⟩
  · rw [setCell_get, if_neg]
    intro e; exact hn a.block (e ▸ ha.1)
  · obtain ⟨o, o', h1, h2, h3⟩ := h.blk x y hr
    cases h3 with
    | number _ h4 => exact absurd hs (h4 _)
    | view _ _ h4 => exact absurd hs (h4 _)
    | @cells c c' e f f' h3 =>
      have keep : ∀ (ar : Array Value) (p : Option Nat) (o : Nat) (v : Value), ¬ S a.block o → (if p.isSome then ar else ar.setIfInBounds o v).size = ar.size ∧ ∀ j, S a.block j → (if p.isSome then ar else ar.setIfInBounds o v)[j]? = ar[j]? := by
        intro ar p o v hn
        refine ⟨by split <;> simp, fun j hj => ?_⟩
        split
        · rfl
        · rw [Array.getElem?_setIfInBounds_ne]
          intro e
          exact hn (e ▸ hj)
      by_cases hy : a'.block = y
      · have hx : a.block = x := h.fine.inj _ _ _ ha.1 (hy ▸ hr)
        subst hy hx
        have k1 := keep c' a'.spot a'.off v' (by rw [ha.2.1]; exact hns)
        have k2 := keep c a.spot a.off v hns
        exact ⟨⟨c', e, f', _, f', h2, by rw [setCell_get, if_pos rfl, h2]; rfl, k1.1, k1.2⟩, c, e, f, _, f, h1, by rw [setCell_get, if_pos rfl, h1]; rfl, k2.1, k2.2⟩
      · have hx : a.block ≠ x := fun e => hy (h.fine.fn _ _ _ ha.1 (e ▸ hr))
        exact ⟨⟨_, _, _, _, _, h2, by rw [setCell_get, if_neg hy]; exact h2, rfl, fun _ _ => rfl⟩, _, _, _, _, _, h1, by rw [setCell_get, if_neg hx]; exact h1, rfl, fun _ _ => rfl⟩

theorem WR.push (h : WR V N G R S w w') {o o' : Obj} (ho : BlkR V G R S w.heap.size o o') :
    WR V N G (R.add w.heap.size w'.heap.size) S { w with heap := w.heap.push o } { w' with heap := w'.heap.push o' } ∧
    Eff B S R (R.add w.heap.size w'.heap.size) w w' { w with heap := w.heap.push o } { w' with heap := w'.heap.push o' } := by
  have old : ∀ {h : Array Obj} {o : Obj} {i : Nat}, i < h.size → (h.push o)[i]? = h[i]? := fun hi => by rw [Array.getElem?_push, if_neg (by omega)]
  refine ⟨⟨h.fine.add (fun b hb => by have := (h.lt hb).1; omega) (fun b hb => by have := (h.lt hb).2; omega) h.low.1 h.low.2, by simp only [Array.size_push]; have := h.low; omega, fun x i hx => by simp only [Array.size_push]; exact Nat.lt_succ_of_lt (h.sl x i hx), fun x y hr => ?_⟩,
    BR.sub_add _ _ _, fun x y hr => ?_, by simp, by simp, fun b h1 h2 => ?_, fun b hb hn => old hb, fun x y i hr hs => ?_, fun x y hr c t f hcc => ⟨c, f, by rw [old (h.lt hr).2]; exact hcc, rfl, .inl rfl⟩, rfl, rfl, rfl, rfl, 0, rfl, rfl⟩
  · rcases hr with hr | ⟨rfl, rfl⟩
    · obtain ⟨p, p', h1, h2, h3⟩ := h.blk x y hr
      exact ⟨p, p', by rw [old (h.lt hr).1]; exact h1, by rw [old (h.lt hr).2]; exact h2, h3.mono (BR.sub_add _ _ _)⟩
    · exact ⟨o, o', by simp, by simp, ho.mono (BR.sub_add _ _ _)⟩
  · rcases hr with hr | ⟨rfl, rfl⟩
    · exact .inl hr
    · exact .inr ⟨Nat.le_refl _, Nat.le_refl _⟩
  · simp only [Array.size_push] at h2
    exact ⟨w.heap.size, .inr ⟨rfl, by omega⟩⟩
  · obtain ⟨p, p', h1, h2, h3⟩ := h.blk x y hr
    cases h3 with
    | number _ h4 => exact absurd hs (h4 _)
    | view _ _ h4 => exact absurd hs (h4 _)
    | cells => exact ⟨⟨_, _, _, _, _, h2, by rw [old (h.lt hr).2]; exact h2, rfl, fun _ _ => rfl⟩, _, _, _, _, _, h1, by rw [old (h.lt hr).1]; exact h1, rfl, fun _ _ => rfl⟩
theorem WR.newCells (h : WR V N G R S w w') {c c' : Array Value} (hc : AVR G R c c') (e : TypeId) : BlkR V G R S w.heap.size (.cells c e) (.cells c' e) := .cells hc.avp (fun _ => .inl rfl) (fun _ => ⟨rfl, hc.1.symm⟩) fun i hs _ => by have := h.sl _ _ hs; omega
theorem WR.newView (h : WR V N G R S w w') {u : TypeId} (hv : V u) {x x' : Addr} (hx : AR R x x') : BlkR V G R S w.heap.size (.view x u) (.view x' u) := .view hv hx fun i hs => by have := h.sl _ _ hs; omega
theorem WR.newNum (h : WR V N G R S w w') {x x' : Addr} (hx : AR R x x') (l : Bool) : BlkR V G R S w.heap.size (.number x l) (.number x' l) := .number hx fun i hs => by have := h.sl _ _ hs; omega

theorem freeze_get (w : World) (a : Addr) (n : Nat) (b : Nat) : (w.freeze a n).heap[b]? = if n ≠ 0 ∧ a.block = b then (w.heap[b]?).map (fun
      | .cells c elem (lo, hi) => .cells c elem (if lo == hi then (a.off, a.off + n) else (min lo a.off, max hi (a.off + n)))
      | o => o) else w.heap[b]? := by
  unfold World.freeze
  by_cases hn : n = 0
  · simp [hn]
  · simp only [hn, if_false, ne_eq, not_false_eq_true, true_and, Array.getElem?_modify]
    split
    · congr 1
    · rfl
theorem freeze_size (w : World) (a : Addr) (n : Nat) : (w.freeze a n).heap.size = w.heap.size := by
  unfold World.freeze; split <;> simp
theorem freeze_rest (w : World) (a : Addr) (n : Nat) : (w.freeze a n).tape = w.tape ∧ (w.freeze a n).os = w.os ∧ (w.freeze a n).output = w.output ∧ (w.freeze a n).drawn = w.drawn := by
  unfold World.freeze; split <;> exact ⟨rfl, rfl, rfl, rfl⟩

theorem WR.freeze (h : WR V N G R S w w') (ha : AR R a a') (n : Nat) (hB : ∀ c t f, w'.heap[a'.block]? = some (.cells c t f) → B t) : WR V N G R S (w.freeze a n) (w'.freeze a' n) ∧ Eff B S R R w w' (w.freeze a n) (w'.freeze a' n) := by
  have r := freeze_rest w a n
  have r' := freeze_rest w' a' n
  refine ⟨⟨h.fine, by rw [freeze_size, freeze_size]; exact h.low, fun x i hx => by rw [freeze_size]; exact h.sl x i hx, fun x y hr => ?_⟩, .refl R, fun _ _ h => .inl h, by rw [freeze_size]; exact Nat.le_refl _, by rw [freeze_size]; exact Nat.le_refl _,
    fun b h1 h2 => by rw [freeze_size] at h2; omega, fun b hb hn => ?_, fun x y i hr hs => ?_, fun x y hr c t f hcc => by
      rw [freeze_get]
      split
      · rename_i hy
        rw [hcc]; exact ⟨c, _, rfl, rfl, .inr (hB c t f (by rw [hy.2]; exact hcc))⟩
      · exact ⟨c, f, hcc, rfl, .inl rfl⟩, r.1, r'.1, r'.2.1, r'.2.2.1, 0, r.2.2.2, r'.2.2.2⟩
  · obtain ⟨o, o', h1, h2, h3⟩ := h.blk x y hr
    rw [freeze_get, freeze_get]
    by_cases hx : n ≠ 0 ∧ a.block = x
    · obtain ⟨hn, rfl⟩ := hx
      have hy : a'.block = y := h.fine.fn _ _ _ ha.1 hr
      subst hy
      cases h3 with
      | number h3 h4 => exact ⟨_, _, by rw [if_pos ⟨hn, rfl⟩, h1]; rfl, by rw [if_pos ⟨hn, rfl⟩, h2]; rfl, .number h3 h4⟩
      | view h0 h3 h4 => exact ⟨_, _, by rw [if_pos ⟨hn, rfl⟩, h1]; rfl, by rw [if_pos ⟨hn, rfl⟩, h2]; rfl, .view h0 h3 h4⟩
      | cells h3 h0 h4 h5 =>
        refine ⟨_, _, by rw [if_pos ⟨hn, rfl⟩, h1]; rfl, by rw [if_pos ⟨hn, rfl⟩, h2]; rfl, .cells h3 (fun hx => by rw [ha.2.1]; exact (h0 hx).freeze _ hn) (fun hs => ?_) (fun i hs hi => ?_)⟩
        · rw [(h4 hs).1, ha.2.1]; exact ⟨rfl, (h4 hs).2⟩
        · have := h5 i hs hi
          split
          · rename_i he; simp at he; omega
          · simp only; omega
    · have hy : ¬ (n ≠ 0 ∧ a'.block = y) := fun e => hx ⟨e.1, h.fine.inj _ _ _ ha.1 (e.2 ▸ hr)⟩
      exact ⟨o, o', by rw [if_neg hx]; exact h1, by rw [if_neg hy]; exact h2, h3⟩
  · rw [freeze_get, if_neg]
    rintro ⟨_, e⟩; exact hn a.block (e ▸ ha.1)
  · obtain ⟨o, o', h1, h2, h3⟩ := h.blk x y hr
    cases h3 with
    | number _ h4 => exact absurd hs (h4 _)
    | view _ _ h4 => exact absurd hs (h4 _)
    | cells =>
      refine ⟨?_, ?_⟩
      · unfold Kept
        rw [freeze_get]
        split
        · exact ⟨_, _, _, _, _, h2, by rw [h2]; rfl, rfl, fun _ _ => rfl⟩
        · exact ⟨_, _, _, _, _, h2, h2, rfl, fun _ _ => rfl⟩
      · unfold Kept
        rw [freeze_get]
        split
        · exact ⟨_, _, _, _, _, h1, by rw [h1]; rfl, rfl, fun _ _ => rfl⟩
        · exact ⟨_, _, _, _, _, h1, h1, rfl, fun _ _ => rfl⟩

theorem WR.draw (h : WR V N G R S w w') : WR V N G R S { w with drawn := w.drawn + 1 } { w' with drawn := w'.drawn + 1 } ∧ Eff B S R R w w' { w with drawn := w.drawn + 1 } { w' with drawn := w'.drawn + 1 } :=
  ⟨⟨h.fine, h.low, h.sl, h.blk⟩, .refl R, fun _ _ h => .inl h, Nat.le_refl _, Nat.le_refl _, fun b h1 h2 => by simp only at h2; omega, fun _ _ _ => rfl,
    (Eff.refl (B := B) h).sld, fun x y hr c t f hcc => ⟨c, f, hcc, rfl, .inl rfl⟩, rfl, rfl, rfl, rfl, 1, rfl, rfl⟩
theorem WR.noFar (h : WR (fun _ => False) N G R S w w') (ha : AR R a a') (P : Program) (b : Bool) : ∃ x, w.farLoad P a b = .error (.stuck x) := by
  obtain ⟨o, o', h1, _, h3⟩ := h.blk _ _ ha.1
  refine ⟨"load: no such cell", ?_⟩
  cases h3 with
  | view hf => exact hf.elim
  | _ => simp only [World.farLoad, World.noCell, h1]
theorem WR.noFarS (h : WR (fun _ => False) N G R S w w') (ha : AR R a a') (P : Program) (v : Value) (b : Bool) : ∃ x, w.farStore P a v b = .error (.stuck x) := by
  obtain ⟨o, o', h1, _, h3⟩ := h.blk _ _ ha.1
  refine ⟨"store: no such cell", ?_⟩
  cases h3 with
  | view hf => exact hf.elim
  | _ => simp only [World.farStore, World.noCell, h1]
end

/-- Do so many variables of the type lie there? -/
def liesB (P : Program) (w : World) (a : Addr) (e : TypeId) (n : Nat) : Bool := match w.shape? a.block with | some (t, c) => liesAt P P.depth t (c / P.cellsOf t) a.off e n | none => false
theorem ustr_runT {α : Type} (P : Program) (a : Addr) (e : TypeId) (n : Nat) (k : ByteArray → Sem α) (w : World) (es : Array Event) : (ustr a e n k).runT P w es =
    if liesB P w a e n = true then
      match (loadBytes a .empty n).runT P w es with
      | (.ok s w1, es1) => (k s).runT P (w1.freeze a n) es1
      | (.halt x w1, es1) => (.halt x w1, es1)
    else (.halt (.unsupported (.unsafePointer "String: not so many bytes at ptr")) w, es) := by
  unfold ustr variablesAt liesB
  simp only [program, shape, Bind.bind, Sem.bind, Sem.runT]
  cases w.shape? a.block with
  | none => rfl
  | some s =>
    obtain ⟨t, c⟩ := s
    dsimp only [pure, Sem.bind]
    by_cases hl : liesAt P P.depth t (c / P.cellsOf t) a.off e n = true
    · simp only [hl, if_true]
      rw [Sem.runT_bind']
      simp only [Sem.runT]
      generalize (loadBytes a ByteArray.empty n).runT P w es = q
      obtain ⟨r, es2⟩ := q
      cases r <;> rfl
    · simp only [hl, if_false, Bool.false_eq_true]
      rfl
theorem ustr_run {α : Type} (P : Program) (a : Addr) (e : TypeId) (n : Nat) (k : ByteArray → Sem α) (w : World) : (ustr a e n k).run P w =
    if liesB P w a e n = true then
      match (loadBytes a .empty n).run P w with
      | .ok s w1 => (k s).run P (w1.freeze a n)
      | .halt x w1 => .halt x w1
    else .halt (.unsupported (.unsafePointer "String: not so many bytes at ptr")) w := by
  unfold ustr variablesAt liesB
  simp only [program, shape, Bind.bind, Sem.bind, Sem.run]
  cases w.shape? a.block with
  | none => rfl
  | some s =>
    obtain ⟨t, c⟩ := s
    dsimp only [pure, Sem.bind]
    by_cases hl : liesAt P P.depth t (c / P.cellsOf t) a.off e n = true
    · simp only [hl, if_true]
      rw [run_bind]
      simp only [Sem.run]
      generalize (loadBytes a ByteArray.empty n).run P w = q
      cases q <;> rfl
    · simp only [hl, if_false, Bool.false_eq_true]
      rfl
theorem rowAt_mono {P : Program} {fits : TypeId → Bool} {c c' : Nat} (h : c ≤ c') : ∀ (d : Nat) {e : TypeId} {off n : Nat}, rowAt P fits d e c off n = true → rowAt P fits d e c' off n = true
  | 0, _, _, _, x => by simp [rowAt] at x
  | d + 1, e, off, n, x => by
    unfold rowAt at x ⊢
    dsimp only at x ⊢
    split at x
    · cases x
    · rename_i hs
      rw [if_neg hs]
      rw [Bool.or_eq_true, Bool.and_eq_true, Bool.and_eq_true, Bool.and_eq_true] at x ⊢
      rcases x with ⟨⟨x1, x2⟩, x3⟩ | ⟨x1, x2⟩
      · left; exact ⟨⟨x1, by simp at x2 ⊢; omega⟩, x3⟩
      · right; exact ⟨by simp at x1 ⊢; omega, x2⟩
theorem liesAt_mono {P : Program} {c c' : Nat} (h : c ≤ c') : ∀ {d : Nat} {e : TypeId} {off : Nat} {u : TypeId} {n : Nat}, liesAt P d e c off u n = true → liesAt P d e c' off u n = true
  | 0, _, _, _, _, x => by simp [liesAt] at x
  | d + 1, e, off, u, n, x => by
    unfold liesAt at x ⊢
    rw [Bool.or_eq_true] at x ⊢
    rcases x with x | x
    · exact .inl (rowAt_mono h _ x)
    · right
      split at x
      · exact liesAt_mono h x
      · cases x
/-- Bytes are read there as here. -/
theorem WR.bytes {P : Program} {N : Nat} {G : FuncId → Prop} {R : BR} {S : Nat → Nat → Prop} {w w' : World} (h : WR (fun _ => False) N G R S w w') : ∀ (n : Nat) {a a' : Addr} (acc : ByteArray) {es es' : Array Event} {r : Result ByteArray} {es1 : Array Event}, AR R a a' → EvA S R es es' → (loadBytes a acc n).runT P w es = (r, es1) →
    (∃ s es1', r = .ok s w ∧ (loadBytes a' acc n).runT P w' es' = (.ok s w', es1') ∧ EvA S R es1 es1') ∨ ∃ x w1, r = .halt x w1 ∧ Dead x
  | 0, a, a', acc, es, es', r, es1, ha, he, hr => by cases hr; exact .inl ⟨acc, es', rfl, rfl, he⟩
  | n + 1, a, a', acc, es, es', r, es1, ha, he, hr => by
    simp only [loadBytes, load, Bind.bind, Sem.bind, Sem.runT] at hr ⊢
    cases hc : w.cell? a with
    | none =>
      obtain ⟨y, hf⟩ := h.noFar ha P (Mode.plain == Mode.atomic)
      rw [hc, hf] at hr; cases hr
      exact .inr ⟨_, _, rfl, trivial⟩
    | some v =>
      rw [hc] at hr
      obtain ⟨v', hc', hv⟩ := h.cell ha hc
      rw [hc']
      cases hv with
      | int k m =>
        cases k <;> first
          | (cases hr; exact .inr ⟨_, _, rfl, trivial⟩)
          | exact h.bytes n _ (ha.add 1) (he.push (EvR.cell ha false _ fun e => by cases e)) hr
      | _ => cases hr; exact .inr ⟨_, _, rfl, trivial⟩
theorem WR.lies {P : Program} {V : TypeId → Prop} {N : Nat} {G : FuncId → Prop} {R : BR} {S : Nat → Nat → Prop} {w w' : World} (h : WR V N G R S w w') {a a' : Addr} (ha : AR R a a') {e : TypeId} {n : Nat} (hl : liesB P w a e n = true) :
    liesB P w' a' e n = true := by
  unfold liesB at hl ⊢
  rw [ha.2.1]
  rcases h.shape ha.1 with e | ⟨_, t, c, c', e1, e2, hle⟩
  · rw [e]; exact hl
  · rw [e1] at hl
    rw [e2]
    exact liesAt_mono (Nat.div_le_div_right hle) hl
theorem byteTy_of {P : Program} {w : World} {a : Addr} {e : TypeId} {n : Nat} (hu : P.underlying e = some (.int .u8)) (hl : liesB P w a e n = true) :
    ∀ c t f, w.heap[a.block]? = some (.cells c t f) → ByteTy P t := by
  intro c t f hc
  have : w.shape? a.block = some (t, c.size) := by simp [World.shape?, hc]
  unfold liesB at hl
  rw [this] at hl
  exact ⟨_, _, e, n, hu, hl⟩

/-- ████ WHAT IS RELATED DOES THE SAME. ████ -/
theorem SemR.sound {X : Ctx} (hvw : X.vw = fun _ => False) {α β : Type} {A : BR → α → β → Prop} {R : BR} {s : Sem α} {s' : Sem β} (h : SemR X A R s s') :
    ∀ {S : Nat → Nat → Prop} {w w' : World} {es es' : Array Event} {a : α} {w1 : World} {es1 : Array Event}, WR X.vw X.P.globals.size X.G R S w w' → (X.fz = true → ∀ r i, ¬ S r i) → EvA S R es es' → s.runT X.P w es = (.ok a w1, es1) →
    (∀ j q, w.drawn + j < w1.drawn → w.tape (w.drawn + j) q = w'.tape (w'.drawn + j) q) →
    ∃ R1 b w1' es1', s'.runT X.P w' es' = (.ok b w1', es1') ∧ A R1 a b ∧ WR X.vw X.P.globals.size X.G R1 S w1 w1' ∧ Eff (ByteTy X.P) S R R1 w w' w1 w1' ∧ EvA S R1 es1 es1' := by
  induction h with
  | pure h =>
    intro S w w' es es' a w1 es1 hw hz he hr _
    cases hr
    exact ⟨_, _, w', es', rfl, h, hw, .refl hw, he⟩
  | @load R m a a' k k' ha _ ih =>
    intro S w w' es es' x w1 es1 hw hz he hr hy
    simp only [Sem.runT] at hr ⊢
    cases hc : w.cell? a with
    | none =>
      obtain ⟨y, hf⟩ := (hvw ▸ hw : WR (fun _ => False) _ _ _ _ _ _).noFar ha X.P (m == Mode.atomic)
      rw [hc, hf] at hr; cases hr
    | some v =>
      rw [hc] at hr
      obtain ⟨v', hc', hv⟩ := hw.cell ha hc
      rw [hc']
      exact ih v v' hv hw hz (he.push (EvR.cell ha false _ fun e => by cases e)) hr hy
  | @store R m a a' v v' k k' ha hv _ ih =>
    intro S w w' es es' x w1 es1 hw hz he hr hy
    have key : (match w.cell? a with
        | some _ => if w.frozen? a then (Result.halt (.unsupported (.unsafePointer "a write to bytes that a string shares")) w, es) else k.runT X.P (w.setCell a v) (es.push ⟨.cell a, true, m == Mode.atomic⟩)
        | none => match w.farStore X.P a v (m == Mode.atomic) with
          | .ok (w, touched) => k.runT X.P w (es ++ touched.toArray.map (⟨.cell ·, true, m == Mode.atomic⟩))
          | .error h => (Result.halt h w, es)) = (.ok x w1, es1) → ∃ R1 b w1' es1', (match w'.cell? a' with
        | some _ => if w'.frozen? a' then (Result.halt (.unsupported (.unsafePointer "a write to bytes that a string shares")) w', es') else k'.runT X.P (w'.setCell a' v') (es'.push ⟨.cell a', true, m == Mode.atomic⟩)
        | none => match w'.farStore X.P a' v' (m == Mode.atomic) with
          | .ok (w, touched) => k'.runT X.P w (es' ++ touched.toArray.map (⟨.cell ·, true, m == Mode.atomic⟩))
          | .error h => (Result.halt h w', es')) = (.ok b w1', es1') ∧ A R1 x b ∧ WR X.vw X.P.globals.size X.G R1 S w1 w1' ∧ Eff (ByteTy X.P) S R R1 w w' w1 w1' ∧ EvA S R1 es1 es1' := by
      intro hr
      cases hc : w.cell? a with
      | none =>
        obtain ⟨y, hf⟩ := (hvw ▸ hw : WR (fun _ => False) _ _ _ _ _ _).noFarS ha X.P v (m == Mode.atomic)
        rw [hc, hf] at hr; cases hr
      | some v0 =>
        rw [hc] at hr
        obtain ⟨v0', hc', _⟩ := hw.cell ha hc
        cases hf : w.frozen? a with
        | true => rw [hf] at hr; cases hr
        | false =>
          have hns : ¬ S a.block a.off := fun hs => by rw [hw.sealed ha hs hc] at hf; cases hf
          have hf' : w'.frozen? a' = false := hw.thawed ha hns hf
          simp only [hf, Bool.false_eq_true, if_false] at hr
          obtain ⟨hw2, hef⟩ := hw.set ha hv hc hf
          obtain ⟨R1, b, w1', es1', e1, e2, e3, e4, e5⟩ := ih hw2 hz (he.push (EvR.cell ha true _ fun _ => hns)) hr hy
          exact ⟨R1, b, w1', es1', by rw [hc']; simp only [hf', Bool.false_eq_true, if_false]; exact e1, e2, e3, hef.trans e4, e5⟩
    cases hv <;> first | exact key hr | (simp only [Sem.runT] at hr; cases hr)
  | @new R c c' e k k' hc _ ih =>
    intro S w w' es es' x w1 es1 hw hz he hr hy
    obtain ⟨hw2, hef⟩ := hw.push (hw.newCells hc e)
    obtain ⟨R1, b, w1', es1', e1, e2, e3, e4, e5⟩ := ih w.heap.size w'.heap.size (fun b hb => by have := (hw.lt hb).1; omega) (fun b hb => by have := (hw.lt hb).2; omega) hw.low.1 hw.low.2 hw2 hz (he.mono (BR.sub_add _ _ _)) hr hy
    exact ⟨R1, b, w1', es1', e1, e2, e3, hef.trans e4, e5⟩
  | @newN R x x' l k k' hc _ ih =>
    intro S w w' es es' y w1 es1 hw hz he hr hy
    obtain ⟨hw2, hef⟩ := hw.push (hw.newNum hc l)
    obtain ⟨R1, b, w1', es1', e1, e2, e3, e4, e5⟩ := ih w.heap.size w'.heap.size (fun b hb => by have := (hw.lt hb).1; omega) (fun b hb => by have := (hw.lt hb).2; omega) hw.low.1 hw.low.2 hw2 hz (he.mono (BR.sub_add _ _ _)) hr hy
    exact ⟨R1, b, w1', es1', e1, e2, e3, hef.trans e4, e5⟩
  | newV hz => rw [hvw] at hz; exact hz.elim
  | @getN R r r' k k' hr0 _ _ ih _ =>
    intro S w w' es es' y w1 es1 hw hz he hr hy
    obtain ⟨o, o', h1, h2, h3⟩ := hw.blk _ _ hr0
    simp only [Sem.runT, h1] at hr
    simp only [Sem.runT, h2]
    cases h3 with
    | cells => cases hr
    | view hf => rw [hvw] at hf; exact hf.elim
    | number h3 => exact ih _ _ _ h3 hw hz (he.push (e := ⟨.obj r, false, _⟩) (e' := ⟨.obj r', false, _⟩) ⟨rfl, rfl, hr0, rfl⟩) hr hy
  | @shape R r r' k k' hr0 _ ih =>
    intro S w w' es es' x w1 es1 hw hz he hr hy
    simp only [Sem.runT] at hr ⊢
    refine ih _ _ ?_ hw hz he hr hy
    rcases hw.shape hr0 with e | ⟨⟨i, hi⟩, e⟩
    · exact .inl e
    · refine .inr ⟨?_, fun u hu => by rw [hvw] at hu; exact hu, e⟩
      cases hfz : X.fz with
      | false => rfl
      | true => exact absurd hi (hz hfz _ _)
  | @ustr R a a' e n k k' ha hu _ ih =>
    intro S w w' es es' x w1 es1 hw hz he hr hy
    rw [ustr_runT] at hr ⊢
    split at hr
    · rename_i hl
      have hl' := hw.lies (P := X.P) ha hl
      rw [if_pos hl']
      cases hb : (loadBytes a .empty n).runT X.P w es with
      | mk r es2 =>
        rcases (hvw ▸ hw : WR (fun _ => False) _ _ _ _ _ _).bytes n .empty ha he hb with ⟨s, es2', rfl, h2, h3⟩ | ⟨y, w2, rfl, _⟩
        · rw [hb] at hr
          rw [h2]
          dsimp only at hr ⊢
          obtain ⟨hw2, hef⟩ := hw.freeze (B := ByteTy X.P) ha n (byteTy_of hu hl')
          have r := freeze_rest w a n
          have r' := freeze_rest w' a' n
          obtain ⟨R1, b, w1', es1', e1, e2, e3, e4, e5⟩ := ih s hw2 hz h3 hr (by rw [r.2.2.2, r'.2.2.2, r.1, r'.1]; exact hy)
          exact ⟨R1, b, w1', es1', e1, e2, e3, hef.trans e4, e5⟩
        · rw [hb] at hr; cases hr
    · cases hr
  | @frozen R a a' k k' hfz ha _ ih =>
    intro S w w' es es' x w1 es1 hw hz he hr hy
    simp only [Sem.runT] at hr ⊢
    rw [hw.frozen ha (hz hfz _)]
    exact ih _ hw hz he hr hy
  | @choose R q k k' _ ih =>
    intro S w w' es es' x w1 es1 hw hz he hr hy
    simp only [Sem.runT] at hr ⊢
    by_cases hq : q.forced = true
    · rw [if_pos hq] at hr ⊢
      exact ih 0 hw hz he hr hy
    · rw [if_neg hq] at hr ⊢
      have hd := runT_drawn X.P _ _ ((by rw [← Sem.runT_fst X.P _ _ es, hr] : _ = Result.ok x w1))
      simp only at hd
      have h0 := hy 0 q (by omega)
      simp only [Nat.add_zero] at h0
      rw [← h0]
      obtain ⟨hw2, hef⟩ := hw.draw
      obtain ⟨R1, b, w1', es1', e1, e2, e3, e4, e5⟩ := ih _ hw2 hz he hr (fun j q hj => by
        simp only at hj ⊢
        have := hy (j + 1) q (by omega)
        rw [show w.drawn + 1 + j = w.drawn + (j + 1) by omega, show w'.drawn + 1 + j = w'.drawn + (j + 1) by omega]
        exact this)
      exact ⟨R1, b, w1', es1', e1, e2, e3, hef.trans e4, e5⟩
  | program _ ih =>
    intro S w w' es es' x w1 es1 hw hz he hr hy
    exact ih hw hz he hr hy
  | @mark R m k k' hm _ ih =>
    intro S w w' es es' x w1 es1 hw hz he hr hy
    exact ih hw hz (he.push ⟨rfl, rfl, rfl, hm⟩) hr hy
  | @dead R s s' hd =>
    intro S w w' es es' x w1 es1 hw hz he hr hy
    obtain ⟨y, w2, h1, _⟩ := hd w
    have := Sem.runT_fst X.P s w es
    rw [hr, h1] at this; cases this

/-- A lone run that gives nothing is dead. -/
theorem SemR.halts {X : Ctx} (hvw : X.vw = fun _ => False) {α β : Type} {A : BR → α → β → Prop} {R : BR} {s : Sem α} {s' : Sem β} (h : SemR X A R s s') :
    ∀ {S : Nat → Nat → Prop} {w w' : World} {x : Halt} {w1 : World}, WR X.vw X.P.globals.size X.G R S w w' → s.run X.P w = .halt x w1 → Dead x := by
  induction h with
  | pure h => intro S w w' x w1 hw hr; cases hr
  | @load R m a a' k k' ha _ ih =>
    intro S w w' x w1 hw hr
    simp only [Sem.run] at hr
    cases hc : w.cell? a with
    | none =>
      obtain ⟨y, hf⟩ := (hvw ▸ hw : WR (fun _ => False) _ _ _ _ _ _).noFar ha X.P (m == Mode.atomic)
      rw [hc, hf] at hr; cases hr; trivial
    | some v =>
      rw [hc] at hr
      obtain ⟨v', hc', hv⟩ := hw.cell ha hc
      exact ih v v' hv hw hr
  | @store R m a a' v v' k k' ha hv _ ih =>
    intro S w w' x w1 hw hr
    have key : (match w.cell? a with
        | some _ => if w.frozen? a then Result.halt (.unsupported (.unsafePointer "a write to bytes that a string shares")) w else k.run X.P (w.setCell a v)
        | none => match w.farStore X.P a v (m == Mode.atomic) with
          | .ok (w, _) => k.run X.P w
          | .error h => Result.halt h w) = .halt x w1 → Dead x := by
      intro hr
      cases hc : w.cell? a with
      | none =>
        obtain ⟨y, hf⟩ := (hvw ▸ hw : WR (fun _ => False) _ _ _ _ _ _).noFarS ha X.P v (m == Mode.atomic)
        rw [hc, hf] at hr; cases hr; trivial
      | some v0 =>
        rw [hc] at hr
        cases hf : w.frozen? a with
        | true => rw [hf] at hr; cases hr; trivial
        | false =>
          simp only [hf, Bool.false_eq_true, if_false] at hr
          exact ih (hw.set (B := fun _ => True) ha hv hc hf).1 hr
    cases hv <;> first | exact key hr | (simp only [Sem.run] at hr; cases hr; trivial)
  | @new R c c' e k k' hc _ ih => intro S w w' x w1 hw hr; exact ih _ w'.heap.size (fun b hb => by have := (hw.lt hb).1; omega) (fun b hb => by have := (hw.lt hb).2; omega) hw.low.1 hw.low.2 (hw.push (B := fun _ => True) (hw.newCells hc e)).1 hr
  | @newN R y y' l k k' hc _ ih => intro S w w' x w1 hw hr; exact ih _ w'.heap.size (fun b hb => by have := (hw.lt hb).1; omega) (fun b hb => by have := (hw.lt hb).2; omega) hw.low.1 hw.low.2 (hw.push (B := fun _ => True) (hw.newNum hc l)).1 hr
  | newV hz => rw [hvw] at hz; exact hz.elim
  | @getN R r r' k k' hr0 _ _ ih _ =>
    intro S w w' x w1 hw hr
    obtain ⟨o, o', h1, h2, h3⟩ := hw.blk _ _ hr0
    simp only [Sem.run, h1] at hr
    cases h3 with
    | cells => cases hr; trivial
    | view hf => rw [hvw] at hf; exact hf.elim
    | number h3 => exact ih _ _ _ h3 hw hr
  | shape _ _ ih => intro S w w' x w1 hw hr; exact ih _ _ (.inl rfl) hw hr
  | @ustr R a a' e n k k' ha hu _ ih =>
    intro S w w' x w1 hw hr
    rw [ustr_run] at hr
    split at hr
    · rename_i hl
      have hb : (loadBytes a .empty n).runT X.P w #[] = ((loadBytes a .empty n).run X.P w, ((loadBytes a .empty n).runT X.P w #[]).2) := by rw [← Sem.runT_fst X.P _ _ #[]]
      rcases (hvw ▸ hw : WR (fun _ => False) _ _ _ _ _ _).bytes (es := #[]) (es' := #[]) n .empty ha .nil hb with ⟨s, es2', h1, h2, h3⟩ | ⟨y, w2, h1, hd⟩
      · rw [h1] at hr
        exact ih s (hw.freeze (B := fun _ => True) ha n fun _ _ _ _ => trivial).1 hr
      · rw [h1] at hr; cases hr; exact hd
    · cases hr; trivial
  | frozen _ _ _ ih => intro S w w' x w1 hw hr; exact ih _ hw hr
  | choose _ ih =>
    intro S w w' x w1 hw hr
    simp only [Sem.run] at hr
    split at hr
    · exact ih 0 hw hr
    · exact ih _ (hw.draw (B := fun _ => True)).1 hr
  | program _ ih => intro S w w' x w1 hw hr; exact ih hw hr
  | mark _ _ ih => intro S w w' x w1 hw hr; exact ih hw hr
  | dead hd =>
    intro S w w' x w1 hw hr
    obtain ⟨y, w2, h1, h2⟩ := hd w
    rw [hr] at h1; cases h1; exact h2

end Go.Proofs.Ytcgjppacnhmjlaa.Sim
end

section
set_option linter.unusedVariables false
set_option linter.unusedSimpArgs false
set_option linter.unusedSectionVars false
/-! One memory: what an operation touches lies in the blocks that it may know of. -/
namespace Go.Proofs.Ytcgjppacnhmjlaa.Sim
open Go
set_option linter.unusedVariables false

section
variable {V : TypeId → Prop} {N : Nat} {G : FuncId → Prop} {R : BR} {S : Nat → Nat → Prop} {w w' : World} {a a' : Addr} {v v' : Value}

/-- No cell of the type is a float or a complex number. -/
def NoFl (P : Program) (u : TypeId) : Prop := ∀ off v, plainCell P P.depth u off = some v → (∃ b, v = .bool b) ∨ ∃ k n, v = .int k n
theorem ofBytes_vr {like v : Value} {bs : List UInt8} (h : like.ofBytes bs = some v) (hl : (∃ b, like = .bool b) ∨ ∃ k n, like = .int k n) : VR G R v v := by
  rcases hl with ⟨b, rfl⟩ | ⟨k, n, rfl⟩
  · simp only [Value.ofBytes] at h
    split at h <;> first | cases h; exact .bool _ | cases h
  · simp only [Value.ofBytes] at h
    split at h
    · cases h; exact .int _ _
    · cases h
theorem ofBytes_old {old v : Value} {bs : List UInt8} (h : old.ofBytes bs = some v) (ho : VR G R old old) : VR G R v v := by
  unfold Value.ofBytes at h
  split at h
  · split at h <;> first | cases h; exact .bool _ | cases h
  · split at h
    · cases h; exact .int _ _
    · cases h
  · cases ho
  · cases ho
  · cases h

theorem seen_cells {P : Program} {w : World} {at_ k : Addr} {u : TypeId} {b : Bool} {c : Array Value} {e : TypeId} {f : Nat × Nat} {n : Nat} {like : Value} {cs : List (Nat × Nat × List UInt8)} (h : w.seen P at_ u k b = .ok (c, e, f, n, like, cs)) :
    w.heap[at_.block]? = some (.cells c e f) ∧ plainCell P P.depth u k.off = some like := by
  unfold World.seen at h
  simp only [bind, Except.bind, pure, Except.pure] at h
  repeat' split at h
  all_goals first | (cases h; done) | skip
  all_goals (cases h; constructor <;> assumption)

theorem fold_inv {β : Type} {Q : Array Value → Prop} {f : Array Value → β → Except String (Array Value)} (hf : ∀ c x c', Q c → f c x = .ok c' → Q c') : ∀ (l : List β) (c c' : Array Value), Q c → l.foldlM f c = .ok c' → Q c'
  | [], c, c', h, e => by cases e; exact h
  | x :: l, c, c', h, e => by
    rw [List.foldlM_cons] at e
    cases hx : f c x with
    | error s => rw [hx] at e; cases e
    | ok c1 => rw [hx] at e; exact fold_inv hf l c1 c' (hf c x c1 h hx) e

/-- A load through memory seen as another type. -/
theorem WR.farU {P : Program} (hV : ∀ u, V u → NoFl P u) (h : WR V N G R S w w) (ha : AR R a a) {b : Bool} {l : List Addr} (e : w.farLoad P a b = .ok (v, l)) : VR G R v v ∧ ∀ x ∈ l, AR R x x := by
  obtain ⟨o, o', h1, h2, h3⟩ := h.blk _ _ ha.1
  rw [h1] at h2; cases h2
  cases h3 with
  | cells => simp only [World.farLoad, World.noCell, h1] at e; cases e
  | number => simp only [World.farLoad, World.noCell, h1] at e; cases e
  | @view x x' u h0 hx hs =>
    simp only [World.farLoad, h1] at e
    cases hl : w.viewLoad P x u a b with
    | error s => rw [hl] at e; cases e
    | ok r =>
      rw [hl] at e; cases e
      unfold World.viewLoad at hl
      simp only [bind, Except.bind, pure, Except.pure] at hl
      split at hl
      · cases hl
      · rename_i hq
        split at hl
        · rename_i hv
          cases hl
          refine ⟨ofBytes_vr hv (hV u h0 _ _ (seen_cells hq).2), fun y hy => ?_⟩
          obtain ⟨z, _, rfl⟩ := List.mem_map.1 hy
          exact ⟨hx.1, rfl, rfl⟩
        · cases hl

/-- A store through it. -/
theorem WR.farSU (h : WR V N G R S w w) (ha : AR R a a) {P : Program} {b : Bool} {l : List Addr} {w2 : World} (e : w.farStore P a v b = .ok (w2, l)) :
    ∃ r c c' t f, R r r ∧ w.heap[r]? = some (.cells c t f) ∧ w2 = { w with heap := w.heap.setIfInBounds r (.cells c' t f) } ∧ AVR G R c' c' ∧ c'.size = c.size ∧ (∀ x ∈ l, AR R x x ∧ x.block = r) := by
  obtain ⟨o, o', h1, h2, h3⟩ := h.blk _ _ ha.1
  rw [h1] at h2; cases h2
  cases h3 with
  | cells => simp only [World.farStore, World.noCell, h1] at e; cases e
  | number => simp only [World.farStore, World.noCell, h1] at e; cases e
  | @view x x' u h0 hx hs =>
    simp only [World.farStore, h1] at e
    cases hl : w.viewStore P x u a v b with
    | error s => rw [hl] at e; cases e
    | ok r =>
      rw [hl] at e; cases e
      unfold World.viewStore at hl
      simp only [bind, Except.bind, pure, Except.pure] at hl
      split at hl
      · cases hl
      · split at hl
        · cases hl
        · rename_i q hq
          obtain ⟨c, t, f, n, like, cs⟩ := q
          have hc := (seen_cells hq).1
          dsimp only at hl
          split at hl
          · split at hl
            · cases hl
            · split at hl
              · cases hl
              · rename_i c' hc'
                cases hl
                obtain ⟨p, p', g1, g2, g3⟩ := h.blk _ _ hx.1
                rw [g1] at g2; cases g2
                rw [hc] at g1; cases g1
                refine ⟨x.block, c, c', t, f, hx.1, hc, rfl, ?_, ?_, fun y hy => ?_⟩
                · cases g3 with
                  | cells g3 =>
                    refine fold_inv (Q := fun c => AVR G R c c) (fun c z c2 hQ hz => ?_) cs c c' (g3.avr rfl) hc'
                    repeat' split at hz
                    all_goals first | (cases hz; done) | skip
                    all_goals (rename_i ho _ _ hv; cases hz; exact hQ.set _ (ofBytes_old hv (hQ.2 _ _ _ ho ho)))
                · refine fold_inv (Q := fun c2 => c2.size = c.size) (fun c2 z c3 hQ hz => ?_) cs c c' rfl hc'
                  repeat' split at hz
                  all_goals first | (cases hz; done) | skip
                  all_goals (cases hz; simpa using hQ)
                · obtain ⟨z, _, rfl⟩ := List.mem_map.1 hy
                  exact ⟨⟨hx.1, rfl, rfl⟩, rfl⟩
          · cases hl
end

theorem WR.farErr {V : TypeId → Prop} {N : Nat} {G : FuncId → Prop} {R : BR} {S : Nat → Nat → Prop} {w : World} {a : Addr} (h : WR V N G R S w w) (ha : AR R a a) {P : Program} {b : Bool} {x : Halt} (e : w.farLoad P a b = .error x) : Dead x := by
  obtain ⟨o, o', h1, h2, h3⟩ := h.blk _ _ ha.1
  cases h3 with
  | cells => simp only [World.farLoad, World.noCell, h1] at e; cases e; trivial
  | number => simp only [World.farLoad, World.noCell, h1] at e; cases e; trivial
  | view =>
    simp only [World.farLoad, h1] at e
    split at e
    · cases e
    · cases e; trivial
theorem WR.farSErr {V : TypeId → Prop} {N : Nat} {G : FuncId → Prop} {R : BR} {S : Nat → Nat → Prop} {w : World} {a : Addr} {v : Value} (h : WR V N G R S w w) (ha : AR R a a) {P : Program} {b : Bool} {x : Halt} (e : w.farStore P a v b = .error x) : Dead x := by
  obtain ⟨o, o', h1, h2, h3⟩ := h.blk _ _ ha.1
  cases h3 with
  | cells => simp only [World.farStore, World.noCell, h1] at e; cases e; trivial
  | number => simp only [World.farStore, World.noCell, h1] at e; cases e; trivial
  | view =>
    simp only [World.farStore, h1] at e
    split at e
    · cases e
    · cases e; trivial
theorem EvA.far {R : BR} {es : Array Event} (he : EvA (fun _ _ => False) R es es) (wr sy : Bool) : ∀ (l : List Addr), (∀ x ∈ l, AR R x x) → EvA (fun _ _ => False) R (es ++ l.toArray.map (⟨.cell ·, wr, sy⟩)) (es ++ l.toArray.map (⟨.cell ·, wr, sy⟩)) := by
  intro l hl
  unfold EvA at he ⊢
  simp only [Array.toList_append, List.map_toArray]
  refine he.app ?_
  induction l with
  | nil => exact .nil
  | cons x l ih => exact .cons (EvR.cell (hl x (by simp)) wr sy fun _ => id) (ih fun y hy => hl y (by simp [hy]))
/-- A block's cells are others. -/
theorem WR.putU {B V : TypeId → Prop} {N : Nat} {G : FuncId → Prop} {R : BR} {w : World} (h : WR V N G R (fun _ _ => False) w w) (hd : ∀ a b, R a b → a = b) {r : Nat} {c c' : Array Value} {t : TypeId} {f : Nat × Nat} (hr : R r r) (hc : w.heap[r]? = some (.cells c t f)) (h' : AVR G R c' c') (hsz : c'.size = c.size) :
    WR V N G R (fun _ _ => False) { w with heap := w.heap.setIfInBounds r (.cells c' t f) } { w with heap := w.heap.setIfInBounds r (.cells c' t f) } ∧
    Eff B (fun _ _ => False) R R w w { w with heap := w.heap.setIfInBounds r (.cells c' t f) } { w with heap := w.heap.setIfInBounds r (.cells c' t f) } := by
  have hlt : r < w.heap.size := (Array.getElem?_eq_some_iff.1 hc).1
  refine ⟨⟨h.fine, by simpa using h.low, fun a _ x => x.elim, fun a b hab => ?_⟩, .refl R, fun _ _ x => .inl x, by simp, by simp, fun b h1 h2 => by simp at h2; omega, fun b hb hn => ?_, fun a b _ _ x => x.elim, fun a b hab c2 t2 f2 hcc => by
      by_cases e : r = b
      · subst e
        rw [hc] at hcc; cases hcc
        exact ⟨c', f, by simp [hlt], hsz, .inl rfl⟩
      · exact ⟨c2, f2, by simp [e, hcc], rfl, .inl rfl⟩, rfl, rfl, rfl, rfl, 0, rfl, rfl⟩
  · cases hd a b hab
    by_cases e : r = a
    · subst e
      exact ⟨.cells c' t f, .cells c' t f, by simp [hlt], by simp [hlt], .cells h'.avp (fun _ => .inl rfl) (fun _ => ⟨rfl, rfl⟩) fun _ x => x.elim⟩
    · obtain ⟨o, o', h1, h2, h3⟩ := h.blk a a hab
      exact ⟨o, o', by simp [e, h1], by simp [e, h2], h3⟩
  · have : r ≠ b := fun e => hn r (e ▸ hr)
    simp [this]

theorem WR.bytesU {P : Program} {V : TypeId → Prop} {N : Nat} {G : FuncId → Prop} {R : BR} {w : World} (hV : ∀ u, V u → NoFl P u) (h : WR V N G R (fun _ _ => False) w w) : ∀ (n : Nat) {a : Addr} (acc : ByteArray) {es : Array Event} {r : Result ByteArray} {es1 : Array Event}, AR R a a → EvA (fun _ _ => False) R es es → (loadBytes a acc n).runT P w es = (r, es1) →
    (∃ s, r = .ok s w ∧ EvA (fun _ _ => False) R es1 es1) ∨ ∃ x w1, r = .halt x w1 ∧ Dead x
  | 0, a, acc, es, r, es1, ha, he, hr => by cases hr; exact .inl ⟨acc, rfl, he⟩
  | n + 1, a, acc, es, r, es1, ha, he, hr => by
    have fin : ∀ (v : Value) {es' : Array Event}, VR G R v v → EvA (fun _ _ => False) R es' es' → (match v with | .int .u8 b => loadBytes (a.add 1) (acc.push b.toNat.toUInt8) n | _ => stuck "a byte variable that holds no byte").runT P w es' = (r, es1) → (∃ s, r = .ok s w ∧ EvA (fun _ _ => False) R es1 es1) ∨ ∃ x w1, r = .halt x w1 ∧ Dead x := by
      intro v es' hv he' hr
      cases hv with
      | int k m =>
        cases k <;> first
          | (cases hr; exact .inr ⟨_, _, rfl, trivial⟩)
          | exact h.bytesU hV n _ (ha.add 1) he' hr
      | _ => cases hr; exact .inr ⟨_, _, rfl, trivial⟩
    simp only [loadBytes, load, Bind.bind, Sem.bind, Sem.runT] at hr
    cases hc : w.cell? a with
    | none =>
      rw [hc] at hr
      cases hf : w.farLoad P a (Mode.plain == Mode.atomic) with
      | error x => rw [hf] at hr; cases hr; exact .inr ⟨_, _, rfl, h.farErr ha hf⟩
      | ok p =>
        obtain ⟨v, l⟩ := p
        rw [hf] at hr
        obtain ⟨hv, hl⟩ := WR.farU hV h ha hf
        exact fin v hv (he.far false _ l hl) hr
    | some v =>
      rw [hc] at hr
      obtain ⟨v', hc', hv⟩ := h.cell ha hc
      rw [hc] at hc'; cases hc'
      exact fin v hv (he.push (EvR.cell ha false _ fun e => by cases e)) hr
theorem lb_inj {α : Type} {P : Program} {w : World} {F F' : ByteArray → Sem α} : ∀ (n : Nat) {a : Addr} {acc s : ByteArray} {w1 : World} {es es1 : Array Event}, (loadBytes a acc n).bind F' = (loadBytes a acc n).bind F → (loadBytes a acc n).runT P w es = (.ok s w1, es1) → F' s = F s
  | 0, a, acc, s, w1, es, es1, h, hr => by cases hr; exact h
  | n + 1, a, acc, s, w1, es, es1, h, hr => by
    simp only [loadBytes, load, Bind.bind, Sem.bind, Sem.runT, Sem.load.injEq, true_and] at h hr
    have fin : ∀ (v : Value) {es' : Array Event}, (match v with | .int .u8 b => loadBytes (a.add 1) (acc.push b.toNat.toUInt8) n | _ => stuck "a byte variable that holds no byte").runT P w es' = (.ok s w1, es1) → F' s = F s := by
      intro v es' hr
      have hv := congrFun h v
      cases v with
      | int k m => cases k <;> first | (cases hr; done) | exact lb_inj n hv hr
      | _ => cases hr
    cases hc : w.cell? a with
    | none =>
      rw [hc] at hr
      cases hf : w.farLoad P a (Mode.plain == Mode.atomic) with
      | error x => rw [hf] at hr; cases hr
      | ok p =>
        obtain ⟨v, l⟩ := p
        rw [hf] at hr
        exact fin v hr
    | some v => rw [hc] at hr; exact fin v hr
theorem ustr_inj {α : Type} {P : Program} {w w1 : World} {a : Addr} {e : TypeId} {n : Nat} {k k' : ByteArray → Sem α} {s : ByteArray} {es es1 : Array Event} (h : ustr a e n k' = ustr a e n k) (hl : liesB P w a e n = true) (hr : (loadBytes a .empty n).runT P w es = (.ok s w1, es1)) : k' s = k s := by
  unfold ustr variablesAt at h
  simp only [program, shape, Bind.bind, Sem.bind, Sem.program.injEq] at h
  have h1 := congrFun h P
  simp only [Sem.shape.injEq, true_and] at h1
  have h2 := congrFun h1 (w.shape? a.block)
  unfold liesB at hl
  cases hs : w.shape? a.block with
  | none => rw [hs] at hl; cases hl
  | some z =>
    obtain ⟨t, c⟩ := z
    rw [hs] at hl h2
    dsimp only at hl
    simp only [pure, Sem.bind, hl, if_true] at h2
    have := lb_inj n h2 hr
    simp only [Sem.freeze.injEq, true_and] at this
    exact this
def OutU (X : Ctx) {α : Type} (A : BR → α → α → Prop) (R : BR) (w : World) (r : Result α) (es1 : Array Event) : Prop :=
  match r with
  | .ok a w1 => ∃ R1, (∀ a b, R1 a b → a = b) ∧ A R1 a a ∧ WR X.vw X.P.globals.size X.G R1 (fun _ _ => False) w1 w1 ∧ Eff (ByteTy X.P) (fun _ _ => False) R R1 w w w1 w1 ∧ EvA (fun _ _ => False) R1 es1 es1
  | .halt x _ => Dead x
/-- ████ ONE MEMORY. ████ -/
theorem SemR.soundU {X : Ctx} {α : Type} {A : BR → α → α → Prop} {R : BR} {s s' : Sem α} (hV : ∀ u, X.vw u → NoFl X.P u) (h : SemR X A R s s') :
    s' = s → ∀ {w : World} {es : Array Event} {r : Result α} {es1 : Array Event}, (∀ a b, R a b → a = b) → WR X.vw X.P.globals.size X.G R (fun _ _ => False) w w → EvA (fun _ _ => False) R es es → s.runT X.P w es = (r, es1) → OutU X A R w r es1 := by
  induction h with
  | pure h =>
    intro e w es r es1 hd hw he hr
    cases e; cases hr
    exact ⟨_, hd, h, hw, .refl hw, he⟩
  | @load R m a a' k k' ha _ ih =>
    intro e w es r es1 hd hw he hr
    cases e
    simp only [Sem.runT] at hr
    cases hc : w.cell? a with
    | some v =>
      rw [hc] at hr
      obtain ⟨v', hc', hv⟩ := hw.cell ha hc
      rw [hc] at hc'; cases hc'
      exact ih v v hv rfl hd hw (he.push (EvR.cell ha false _ fun e => by cases e)) hr
    | none =>
      rw [hc] at hr
      cases hf : w.farLoad X.P a (m == Mode.atomic) with
      | error x =>
        rw [hf] at hr; cases hr
        exact hw.farErr ha hf
      | ok p =>
        obtain ⟨v, l⟩ := p
        rw [hf] at hr
        obtain ⟨hv, hl⟩ := WR.farU hV hw ha hf
        exact ih v v hv rfl hd hw (he.far false _ l hl) hr
  | @store R m a a' v v' k k' ha hv _ ih =>
    intro e w es r es1 hd hw he hr
    cases e
    have key : (match w.cell? a with
        | some _ => if w.frozen? a then (Result.halt (.unsupported (.unsafePointer "a write to bytes that a string shares")) w, es) else k.runT X.P (w.setCell a v) (es.push ⟨.cell a, true, m == Mode.atomic⟩)
        | none => match w.farStore X.P a v (m == Mode.atomic) with
          | .ok (w, touched) => k.runT X.P w (es ++ touched.toArray.map (⟨.cell ·, true, m == Mode.atomic⟩))
          | .error h => (Result.halt h w, es)) = (r, es1) → OutU X A R w r es1 := by
      intro hr
      cases hc : w.cell? a with
      | none =>
        rw [hc] at hr
        cases hf : w.farStore X.P a v (m == Mode.atomic) with
        | error x => rw [hf] at hr; cases hr; exact hw.farSErr ha hf
        | ok p =>
          obtain ⟨w2, l⟩ := p
          rw [hf] at hr
          obtain ⟨q, c, c', t, f, h1, h2, h3, h4, h6, h5⟩ := hw.farSU ha hf
          subst h3
          obtain ⟨hw2, hef⟩ := hw.putU hd h1 h2 h4 h6
          have := ih rfl hd hw2 (he.far true _ l fun x hx => (h5 x hx).1) hr
          cases r with
          | ok a w1 => obtain ⟨R1, e1, e2, e3, e4, e5⟩ := this; exact ⟨R1, e1, e2, e3, hef.trans e4, e5⟩
          | halt x w1 => exact this
      | some v0 =>
        rw [hc] at hr
        cases hf : w.frozen? a with
        | true => rw [hf] at hr; cases hr; trivial
        | false =>
          simp only [hf, Bool.false_eq_true, if_false] at hr
          obtain ⟨hw2, hef⟩ := hw.set ha hv hc hf
          have := ih rfl hd hw2 (he.push (EvR.cell ha true _ fun _ => id)) hr
          cases r with
          | ok a w1 => obtain ⟨R1, e1, e2, e3, e4, e5⟩ := this; exact ⟨R1, e1, e2, e3, hef.trans e4, e5⟩
          | halt x w1 => exact this
    cases hv <;> first | exact key hr | (simp only [Sem.runT] at hr; cases hr; trivial)
  | @new R c c' e k k' hc _ ih =>
    intro e w es r es1 hd hw he hr
    cases e
    obtain ⟨hw2, hef⟩ := hw.push (hw.newCells hc _)
    have hd2 : ∀ a b, R.add w.heap.size w.heap.size a b → a = b := fun a b x => x.elim (hd a b) fun y => y.1.trans y.2.symm
    have := ih w.heap.size w.heap.size (fun b hb => by have := (hw.lt hb).1; omega) (fun b hb => by have := (hw.lt hb).2; omega) hw.low.1 hw.low.2 rfl hd2 hw2 (he.mono (BR.sub_add _ _ _)) hr
    cases r with
    | ok a w1 => obtain ⟨R1, e1, e2, e3, e4, e5⟩ := this; exact ⟨R1, e1, e2, e3, hef.trans e4, e5⟩
    | halt x w1 => exact this
  | @newN R x x' l k k' hc _ ih =>
    intro e w es r es1 hd hw he hr
    cases e
    obtain ⟨hw2, hef⟩ := hw.push (hw.newNum hc l)
    have hd2 : ∀ a b, R.add w.heap.size w.heap.size a b → a = b := fun a b x => x.elim (hd a b) fun y => y.1.trans y.2.symm
    have := ih w.heap.size w.heap.size (fun b hb => by have := (hw.lt hb).1; omega) (fun b hb => by have := (hw.lt hb).2; omega) hw.low.1 hw.low.2 rfl hd2 hw2 (he.mono (BR.sub_add _ _ _)) hr
    cases r with
    | ok a w1 => obtain ⟨R1, e1, e2, e3, e4, e5⟩ := this; exact ⟨R1, e1, e2, e3, hef.trans e4, e5⟩
    | halt x w1 => exact this
  | @newV R x x' u k k' hz hc _ ih =>
    intro e w es r es1 hd hw he hr
    cases e
    obtain ⟨hw2, hef⟩ := hw.push (hw.newView hz hc)
    have hd2 : ∀ a b, R.add w.heap.size w.heap.size a b → a = b := fun a b x => x.elim (hd a b) fun y => y.1.trans y.2.symm
    have := ih w.heap.size w.heap.size (fun b hb => by have := (hw.lt hb).1; omega) (fun b hb => by have := (hw.lt hb).2; omega) hw.low.1 hw.low.2 rfl hd2 hw2 (he.mono (BR.sub_add _ _ _)) hr
    cases r with
    | ok a w1 => obtain ⟨R1, e1, e2, e3, e4, e5⟩ := this; exact ⟨R1, e1, e2, e3, hef.trans e4, e5⟩
    | halt x w1 => exact this
  | @getN R r r' k k' hr0 _ _ ih ih2 =>
    intro e w es y es1 hd hw he hr
    cases e
    obtain ⟨o, o', h1, h2, h3⟩ := hw.blk _ _ hr0
    rw [h1] at h2; cases h2
    simp only [Sem.runT, h1] at hr
    cases h3 with
    | cells => cases hr; trivial
    | number h3 => exact ih _ _ _ h3 rfl hd hw (he.push (e := ⟨.obj r, false, _⟩) (e' := ⟨.obj r, false, _⟩) ⟨rfl, rfl, hr0, rfl⟩) hr
    | view hz h3 => exact ih2 _ _ _ hz h3 rfl hd hw (he.push (e := ⟨.obj r, false, _⟩) (e' := ⟨.obj r, false, _⟩) ⟨rfl, rfl, hr0, rfl⟩) hr
  | @shape R r r' k k' hr0 _ ih =>
    intro e w es y es1 hd hw he hr
    cases e
    exact ih _ _ (.inl rfl) rfl hd hw he hr
  | @ustr R a a' e n k k' ha hu _ ih =>
    intro e' w es r es1 hd hw he hr
    have haa : a' = a := by
      obtain ⟨b, o, s⟩ := a
      obtain ⟨b', o', s'⟩ := a'
      obtain ⟨h1, h2, h3⟩ := ha
      have := hd _ _ h1
      dsimp only at this h2 h3
      subst this h2 h3
      rfl
    subst haa
    rw [ustr_runT] at hr
    split at hr
    · rename_i hl
      cases hb : (loadBytes a' .empty n).runT X.P w es with
      | mk rb es2 =>
        rw [hb] at hr
        rcases hw.bytesU hV n .empty ha he hb with ⟨s, rfl, h3⟩ | ⟨y, w2, rfl, hy⟩
        · dsimp only at hr
          have hk := ustr_inj e' hl hb
          obtain ⟨hw2, hef⟩ := hw.freeze (B := ByteTy X.P) ha n (byteTy_of hu hl)
          have := ih s hk hd hw2 h3 hr
          cases r with
          | ok a w1 => obtain ⟨R1, e1, e2, e3, e4, e5⟩ := this; exact ⟨R1, e1, e2, e3, hef.trans e4, e5⟩
          | halt x w1 => exact this
        · cases hr; exact hy
    · cases hr; trivial
  | @frozen R a a' k k' hfz ha _ ih =>
    intro e w es r es1 hd hw he hr
    cases e
    exact ih _ rfl hd hw he hr
  | @choose R q k k' _ ih =>
    intro e w es r es1 hd hw he hr
    cases e
    simp only [Sem.runT] at hr
    by_cases hq : q.forced = true
    · rw [if_pos hq] at hr
      exact ih 0 rfl hd hw he hr
    · rw [if_neg hq] at hr
      obtain ⟨hw2, hef⟩ := hw.draw
      have := ih _ rfl hd hw2 he hr
      cases r with
      | ok a w1 => obtain ⟨R1, e1, e2, e3, e4, e5⟩ := this; exact ⟨R1, e1, e2, e3, hef.trans e4, e5⟩
      | halt x w1 => exact this
  | program _ ih =>
    intro e w es r es1 hd hw he hr
    cases e
    exact ih rfl hd hw he hr
  | @mark R m k k' hm _ ih =>
    intro e w es r es1 hd hw he hr
    cases e
    exact ih rfl hd hw (he.push (e := ⟨.mark m, false, true⟩) (e' := ⟨.mark m, false, true⟩) ⟨rfl, rfl, rfl, hm⟩) hr
  | @dead R s s' hdd =>
    intro e w es r es1 hd hw he hr
    obtain ⟨y, w2, h1, h2⟩ := hdd w
    have := Sem.runT_fst X.P s w es
    rw [hr, h1] at this
    cases r with
    | ok => cases this
    | halt => cases this; exact h2

end Go.Proofs.Ytcgjppacnhmjlaa.Sim
end
