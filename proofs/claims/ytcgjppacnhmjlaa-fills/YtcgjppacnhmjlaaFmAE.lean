/- Own texts: SimM, SimN, SimO, SimP, SimQ. -/
import Derived.Test.YtcgjppacnhmjlaaFmAD
import Derived.KernelRfl
import Derived.Calls

section
set_option linter.unusedVariables false
set_option linter.unusedSimpArgs false
set_option linter.unusedSectionVars false
/-! What ends on every tape ends, whatever is drawn on the way. -/
namespace Go.Proofs.Ytcgjppacnhmjlaa.Sim
open Go
set_option linter.unusedVariables false

abbrev Tape := Nat → Question → Nat

/-- 'Step s tp d': what a step leads to, on this tape, so many drawn; and how many it draws. -/
inductive Ev {σ : Type} (Step : σ → Tape → Nat → Option (σ × Nat)) (Stop : σ → Prop) : σ → Prop
  | stop {s : σ} : Stop s → Ev Step Stop s
  | step {s : σ} : (∀ tp d, ∃ x, Step s tp d = some x) → (∀ tp d s1 k, Step s tp d = some (s1, k) → Ev Step Stop s1) → Ev Step Stop s

def runS {σ : Type} (Step : σ → Tape → Nat → Option (σ × Nat)) : Nat → σ → Tape → Nat → Option (σ × Nat)
  | 0, s, _, d => some (s, d)
  | n + 1, s, tp, d => match Step s tp d with
    | some (s1, k) => runS Step n s1 tp (d + k)
    | none => none

def Agree (tp' : Tape) (d' : Nat) (tp : Tape) (d k : Nat) : Prop := ∀ j, j < k → ∀ q, tp' (d' + j) q = tp (d + j) q

section
open Classical
variable {σ : Type} {Step : σ → Tape → Nat → Option (σ × Nat)} {Stop Inv : σ → Prop}

theorem ev_of_runs (local1 : ∀ s tp d s1 k, Inv s → Step s tp d = some (s1, k) → ∀ tp' d', Agree tp' d' tp d k → Step s tp' d' = some (s1, k))
    (local0 : ∀ s tp d, Inv s → Step s tp d = none → ∃ k, ∀ tp' d', Agree tp' d' tp d k → Step s tp' d' = none)
    (keep : ∀ s tp d s1 k, Inv s → Step s tp d = some (s1, k) → Inv s1)
    {s0 : σ} (h0 : Inv s0) (reach : ∀ tp, ∃ n s d, runS Step n s0 tp 0 = some (s, d) ∧ Stop s) : Ev Step Stop s0 := by
  by_cases hE : Ev Step Stop s0
  · exact hE
  exfalso
  -- where it may not end, a draw leads to where it may not end
  have bad : ∀ s, ∃ p : Tape × Nat × Nat, Inv s → ¬ Ev Step Stop s →
      (∃ s1, Step s p.1 p.2.1 = some (s1, p.2.2) ∧ ¬ Ev Step Stop s1) ∨ (∀ tp' d', Agree tp' d' p.1 p.2.1 p.2.2 → Step s tp' d' = none) := by
    intro s
    by_cases hi : Inv s
    · by_cases he : Ev Step Stop s
      · exact ⟨(fun _ _ => 0, 0, 0), fun _ h => absurd he h⟩
      · have : ¬ ∀ tp d, ∃ s1 k, Step s tp d = some (s1, k) ∧ Ev Step Stop s1 := fun h => he (.step (fun tp d => let ⟨s1, k, e, _⟩ := h tp d; ⟨_, e⟩) fun tp d s1 k e => by obtain ⟨s2, k2, e2, h2⟩ := h tp d; rw [e] at e2; cases e2; exact h2)
        simp only [not_forall] at this
        obtain ⟨tp, d, hn⟩ := this
        cases hs : Step s tp d with
        | none =>
          obtain ⟨k, hk⟩ := local0 s tp d hi hs
          exact ⟨(tp, d, k), fun _ _ => .inr hk⟩
        | some p =>
          obtain ⟨s1, k⟩ := p
          exact ⟨(tp, d, k), fun _ _ => .inl ⟨s1, hs, fun h => hn ⟨s1, k, hs, h⟩⟩⟩
    · exact ⟨(fun _ _ => 0, 0, 0), fun h => absurd h hi⟩
  let pick : σ → Tape × Nat × Nat := fun s => Classical.choose (bad s)
  have hpick : ∀ s, Inv s → ¬ Ev Step Stop s → (∃ s1, Step s (pick s).1 (pick s).2.1 = some (s1, (pick s).2.2) ∧ ¬ Ev Step Stop s1) ∨ (∀ tp' d', Agree tp' d' (pick s).1 (pick s).2.1 (pick s).2.2 → Step s tp' d' = none) := fun s => Classical.choose_spec (bad s)
  let nxt : σ × Nat → σ × Nat := fun x => if h : ∃ s1, Step x.1 (pick x.1).1 (pick x.1).2.1 = some (s1, (pick x.1).2.2) ∧ ¬ Ev Step Stop s1 then (Classical.choose h, x.2 + (pick x.1).2.2) else x
  let st : Nat → σ × Nat := fun i => Nat.rec (s0, 0) (fun _ x => nxt x) i
  have st0 : st 0 = (s0, 0) := rfl
  have stS : ∀ i, st (i + 1) = nxt (st i) := fun _ => rfl
  have inv : ∀ i, Inv (st i).1 ∧ ¬ Ev Step Stop (st i).1 := by
    intro i
    induction i with
    | zero => exact ⟨h0, hE⟩
    | succ i ih =>
      rw [stS]
      show Inv (nxt (st i)).1 ∧ ¬ Ev Step Stop (nxt (st i)).1
      by_cases h : ∃ s1, Step (st i).1 (pick (st i).1).1 (pick (st i).1).2.1 = some (s1, (pick (st i).1).2.2) ∧ ¬ Ev Step Stop s1
      · have e : nxt (st i) = (Classical.choose h, (st i).2 + (pick (st i).1).2.2) := dif_pos h
        rw [e]
        exact ⟨keep _ _ _ _ _ ih.1 (Classical.choose_spec h).1, (Classical.choose_spec h).2⟩
      · have e : nxt (st i) = st i := dif_neg h
        rw [e]; exact ih
  -- where the draws of step number i lie
  have mono : ∀ i j, i ≤ j → (st i).2 ≤ (st j).2 := by
    intro i j hij
    induction hij with
    | refl => exact Nat.le_refl _
    | @step j _ ih =>
      refine Nat.le_trans ih ?_
      rw [stS]
      show (st j).2 ≤ (nxt (st j)).2
      by_cases h : ∃ s1, Step (st j).1 (pick (st j).1).1 (pick (st j).1).2.1 = some (s1, (pick (st j).1).2.2) ∧ ¬ Ev Step Stop s1
      · have e : nxt (st j) = (Classical.choose h, (st j).2 + (pick (st j).1).2.2) := dif_pos h
        rw [e]; exact Nat.le_add_right _ _
      · have e : nxt (st j) = st j := dif_neg h
        rw [e]; exact Nat.le_refl _
  have apart : ∀ i j, i < j → (st i).2 + (pick (st i).1).2.2 ≤ (st j).2 ∨ st j = st i := by
    intro i j hij
    by_cases h : ∃ s1, Step (st i).1 (pick (st i).1).1 (pick (st i).1).2.1 = some (s1, (pick (st i).1).2.2) ∧ ¬ Ev Step Stop s1
    · left
      have e : nxt (st i) = (Classical.choose h, (st i).2 + (pick (st i).1).2.2) := dif_pos h
      have := mono (i + 1) j hij
      rw [stS, e] at this
      exact this
    · right
      have e : nxt (st i) = st i := dif_neg h
      have : ∀ m, st (i + m) = st i := by
        intro m
        induction m with
        | zero => rfl
        | succ m ih => rw [← Nat.add_assoc, stS, ih]; exact e
      have := this (j - i)
      rwa [show i + (j - i) = j by omega] at this
  let T : Tape := fun n q => if h : ∃ i, (st i).2 ≤ n ∧ n < (st i).2 + (pick (st i).1).2.2 then
    (pick (st (Classical.choose h)).1).1 ((pick (st (Classical.choose h)).1).2.1 + (n - (st (Classical.choose h)).2)) q else 0
  have agree : ∀ i, Agree T (st i).2 (pick (st i).1).1 (pick (st i).1).2.1 (pick (st i).1).2.2 := by
    intro i j hj q
    have hex : ∃ i', (st i').2 ≤ (st i).2 + j ∧ (st i).2 + j < (st i').2 + (pick (st i').1).2.2 := ⟨i, by omega, by omega⟩
    have e : T ((st i).2 + j) q = (pick (st (Classical.choose hex)).1).1 ((pick (st (Classical.choose hex)).1).2.1 + ((st i).2 + j - (st (Classical.choose hex)).2)) q := dif_pos hex
    rw [e]
    have hc := Classical.choose_spec hex
    generalize Classical.choose hex = i' at hc ⊢
    have : st i' = st i := by
      rcases Nat.lt_trichotomy i' i with hlt | heq | hgt
      · rcases apart i' i hlt with h | h
        · omega
        · exact h.symm
      · rw [heq]
      · rcases apart i i' hgt with h | h
        · omega
        · exact h
    rw [this, show (st i).2 + j - (st i).2 = j by omega]
  have run : ∀ n i s d, runS Step n (st i).1 T (st i).2 = some (s, d) → ¬ Ev Step Stop s := by
    intro n
    induction n with
    | zero => intro i s d h; cases h; exact (inv i).2
    | succ n ih =>
      intro i s d h
      by_cases hs : ∃ s1, Step (st i).1 (pick (st i).1).1 (pick (st i).1).2.1 = some (s1, (pick (st i).1).2.2) ∧ ¬ Ev Step Stop s1
      · have e : nxt (st i) = (Classical.choose hs, (st i).2 + (pick (st i).1).2.2) := dif_pos hs
        have hst := local1 _ _ _ _ _ (inv i).1 (Classical.choose_spec hs).1 T (st i).2 (agree i)
        refine ih (i + 1) s d ?_
        rw [stS, e]
        simp only [runS, hst] at h
        exact h
      · rcases hpick (st i).1 (inv i).1 (inv i).2 with h' | h'
        · exact absurd h' hs
        · have := h' T (st i).2 (agree i)
          simp only [runS, this] at h
          cases h
  obtain ⟨n, s, d, hr, hS⟩ := reach T
  exact run n 0 s d hr (.stop hS)
end

end Go.Proofs.Ytcgjppacnhmjlaa.Sim
end

section
set_option linter.unusedVariables false
set_option linter.unusedSimpArgs false
set_option linter.unusedSectionVars false
/-! What a run does hangs on what it draws alone. -/
namespace Go.Proofs.Ytcgjppacnhmjlaa.Sim
open Go
set_option linter.unusedVariables false

def re (w : World) (tp : Tape) (d : Nat) : World := { w with tape := tp, drawn := d }
theorem re_re (w : World) (tp tp' : Tape) (d d' : Nat) : re (re w tp d) tp' d' = re w tp' d' := rfl
theorem re_self (w : World) : re w w.tape w.drawn = w := rfl
theorem re_far (w : World) (tp : Tape) (d : Nat) (P : Program) (a : Addr) (b : Bool) : (re w tp d).farLoad P a b = w.farLoad P a b := rfl
theorem re_farS (w : World) (tp : Tape) (d : Nat) (P : Program) (a : Addr) (v : Value) (b : Bool) : (re w tp d).farStore P a v b = (w.farStore P a v b).map fun x => (re x.1 tp d, x.2) := by
  unfold World.farStore
  show (match w.heap[a.block]? with | some (.view at_ u) => _ | _ => _) = _
  cases w.heap[a.block]? with
  | none => rfl
  | some o =>
    cases o with
    | view x u =>
      dsimp only
      have : (re w tp d).viewStore P x u a v b = (w.viewStore P x u a v b).map fun x => (re x.1 tp d, x.2) := by
        unfold World.viewStore
        simp only [bind, Except.bind, pure, Except.pure]
        rw [show (re w tp d).seen P x u a b = w.seen P x u a b from rfl]
        split
        · rfl
        · cases w.seen P x u a b with
          | error s => rfl
          | ok q =>
            obtain ⟨c, e, f, n, like, cs⟩ := q
            dsimp only
            cases v.bytes? with
            | none => rfl
            | some bytes =>
              dsimp only
              split
              · rfl
              · generalize (List.foldlM (m := Except String) _ c cs) = r
                cases r <;> rfl
      rw [this]
      cases w.viewStore P x u a v b <;> rfl
    | _ => rfl

theorem re_WR {V : TypeId → Prop} {N : Nat} {G : FuncId → Prop} {R : BR} {S : Nat → Nat → Prop} {w w' : World} (h : WR V N G R S w w') (tp tp' : Tape) (d d' : Nat) : WR V N G R S (re w tp d) (re w' tp' d') := ⟨h.fine, h.low, h.sl, h.blk⟩
theorem re_freeze (w : World) (tp : Tape) (d : Nat) (a : Addr) (n : Nat) : (re w tp d).freeze a n = re (w.freeze a n) tp d := by
  unfold World.freeze; split <;> rfl

/-- What the run from here does hangs on the next draws alone. -/
def LocU (P : Program) {α : Type} (s : Sem α) (w : World) (tp : Tape) (d : Nat) : Prop :=
  (∀ a w1, s.run P (re w tp d) = .ok a w1 → ∃ k, w1 = re w1 tp (d + k) ∧ ∀ tp' d', Agree tp' d' tp d k → s.run P (re w tp' d') = .ok a (re w1 tp' (d' + k))) ∧
  (∀ x w1, s.run P (re w tp d) = .halt x w1 → ∃ k, ∀ tp' d', Agree tp' d' tp d k → ∃ x' w1', s.run P (re w tp' d') = .halt x' w1')

theorem LocU.halt {P : Program} {α : Type} {s : Sem α} {w : World} {tp : Tape} {d : Nat} (h : ∀ tp d, ∃ x w1, s.run P (re w tp d) = .halt x w1) : LocU P s w tp d :=
  ⟨fun a w1 e => by (obtain ⟨x, w2, e2⟩ := h tp d; rw [e] at e2; cases e2), fun x w1 e => ⟨0, fun tp' d' _ => h tp' d'⟩⟩
theorem LocU.of {P : Program} {α : Type} {s s2 : Sem α} {w w2 : World} {tp : Tape} {d : Nat} (h : LocU P s2 w2 tp d) (e : ∀ tp d, s.run P (re w tp d) = s2.run P (re w2 tp d)) : LocU P s w tp d :=
  ⟨fun a w1 x => by obtain ⟨k, h1, h2⟩ := h.1 a w1 (by rw [← e]; exact x); exact ⟨k, h1, fun tp' d' ha => by rw [e]; exact h2 tp' d' ha⟩,
   fun x w1 y => by obtain ⟨k, h2⟩ := h.2 x w1 (by rw [← e]; exact y); exact ⟨k, fun tp' d' ha => by rw [e]; exact h2 tp' d' ha⟩⟩

theorem lb_re {P : Program} {w : World} : ∀ (n : Nat) {a : Addr} {acc s : ByteArray} {w1 : World} {tp : Tape} {d : Nat}, (loadBytes a acc n).run P w = .ok s w1 → (loadBytes a acc n).run P (re w tp d) = .ok s (re w tp d)
  | 0, a, acc, s, w1, tp, d, h => by cases h; rfl
  | n + 1, a, acc, s, w1, tp, d, h => by
    simp only [loadBytes, load, Bind.bind, Sem.bind, Sem.run] at h ⊢
    rw [show (re w tp d).cell? a = w.cell? a from rfl, re_far]
    have fin : ∀ v : Value, (match v with | .int .u8 b => loadBytes (a.add 1) (acc.push b.toNat.toUInt8) n | _ => stuck "a byte variable that holds no byte").run P w = .ok s w1 → (match v with | .int .u8 b => loadBytes (a.add 1) (acc.push b.toNat.toUInt8) n | _ => stuck "a byte variable that holds no byte").run P (re w tp d) = .ok s (re w tp d) := by
      intro v hv
      cases v with
      | int k m => cases k <;> first | (cases hv; done) | exact lb_re n hv
      | _ => cases hv
    cases hc : w.cell? a with
    | some v => rw [hc] at h; exact fin v h
    | none =>
      rw [hc] at h
      cases hf : w.farLoad P a (Mode.plain == Mode.atomic) with
      | error x => rw [hf] at h; cases h
      | ok p => rw [hf] at h; exact fin p.1 h
theorem lb_re_halt {P : Program} {w : World} : ∀ (n : Nat) {a : Addr} {acc : ByteArray} {x : Halt} {w1 : World} {tp : Tape} {d : Nat}, (loadBytes a acc n).run P w = .halt x w1 → ∃ x' w1', (loadBytes a acc n).run P (re w tp d) = .halt x' w1'
  | 0, a, acc, x, w1, tp, d, h => by cases h
  | n + 1, a, acc, x, w1, tp, d, h => by
    simp only [loadBytes, load, Bind.bind, Sem.bind, Sem.run] at h ⊢
    rw [show (re w tp d).cell? a = w.cell? a from rfl, re_far]
    have fin : ∀ v : Value, (match v with | .int .u8 b => loadBytes (a.add 1) (acc.push b.toNat.toUInt8) n | _ => stuck "a byte variable that holds no byte").run P w = .halt x w1 → ∃ (x' : Halt) (w1' : World), Sem.run P (match v with | .int .u8 b => loadBytes (a.add 1) (acc.push b.toNat.toUInt8) n | _ => stuck "a byte variable that holds no byte") (re w tp d) = .halt x' w1' := by
      intro v hv
      cases v with
      | int k m => cases k <;> first | exact lb_re_halt n hv | exact ⟨_, _, rfl⟩
      | _ => exact ⟨_, _, rfl⟩
    cases hc : w.cell? a with
    | some v => rw [hc] at h; exact fin v h
    | none =>
      rw [hc] at h
      cases hf : w.farLoad P a (Mode.plain == Mode.atomic) with
      | error y => exact ⟨_, _, rfl⟩
      | ok p => rw [hf] at h; exact fin p.1 h

theorem SemR.preU {X : Ctx} {α : Type} {A : BR → α → α → Prop} {R : BR} {s s' : Sem α} (hV : ∀ u, X.vw u → NoFl X.P u) (h : SemR X A R s s') :
    s' = s → ∀ {w : World} (tp : Tape) (d : Nat), (∀ a b, R a b → a = b) → WR X.vw X.P.globals.size X.G R (fun _ _ => False) w w → LocU X.P s w tp d := by
  induction h with
  | pure h =>
    intro e w tp d hd hw
    exact ⟨fun a w1 x => by cases x; exact ⟨0, rfl, fun tp' d' _ => rfl⟩, fun x w1 y => by cases y⟩
  | @load R m a a' k k' ha _ ih =>
    intro e w tp d hd hw
    cases e
    cases hc : w.cell? a with
    | some v =>
      obtain ⟨v', hc', hv⟩ := hw.cell ha hc
      rw [hc] at hc'; cases hc'
      exact (ih v v hv rfl tp d hd hw).of fun tp d => by simp only [Sem.run]; rw [show (re w tp d).cell? a = some v from hc]
    | none =>
      cases hf : w.farLoad X.P a (m == Mode.atomic) with
      | error x => exact .halt fun tp d => ⟨x, re w tp d, by simp only [Sem.run]; rw [show (re w tp d).cell? a = none from hc, re_far, hf]⟩
      | ok p =>
        obtain ⟨v, l⟩ := p
        obtain ⟨hv, hl⟩ := WR.farU hV hw ha hf
        exact (ih v v hv rfl tp d hd hw).of fun tp d => by simp only [Sem.run]; rw [show (re w tp d).cell? a = none from hc, re_far, hf]
  | @store R m a a' v v' k k' ha hv _ ih =>
    intro e w tp d hd hw
    cases e
    have key : (∀ w, (Sem.store m a v k).run X.P w = (match w.cell? a with
        | some _ => if w.frozen? a then Result.halt (.unsupported (.unsafePointer "a write to bytes that a string shares")) w else k.run X.P (w.setCell a v)
        | none => match w.farStore X.P a v (m == Mode.atomic) with
          | .ok (w, _) => k.run X.P w
          | .error h => Result.halt h w)) → LocU X.P (.store m a v k) w tp d := by
      intro hrun
      cases hc : w.cell? a with
      | none =>
        cases hf : w.farStore X.P a v (m == Mode.atomic) with
        | error x => exact .halt fun tp d => ⟨x, re w tp d, by rw [hrun, show (re w tp d).cell? a = none from hc]; dsimp only; rw [re_farS, hf]; rfl⟩
        | ok p =>
          obtain ⟨w2, l⟩ := p
          obtain ⟨q, c, c', t, f, h1, h2, h3, h4, h6, h5⟩ := hw.farSU ha hf
          subst h3
          obtain ⟨hw2, hef⟩ := hw.putU (B := fun _ => True) hd h1 h2 h4 h6
          exact (ih rfl tp d hd hw2).of fun tp d => by rw [hrun, show (re w tp d).cell? a = none from hc]; dsimp only; rw [re_farS, hf]; rfl
      | some v0 =>
        cases hf : w.frozen? a with
        | true => exact .halt fun tp d => ⟨_, re w tp d, by rw [hrun, show (re w tp d).cell? a = some v0 from hc]; dsimp only; rw [show (re w tp d).frozen? a = true from hf]; rfl⟩
        | false =>
          obtain ⟨hw2, hef⟩ := hw.set (B := fun _ => True) ha hv hc hf
          exact (ih rfl tp d hd hw2).of fun tp d => by rw [hrun, show (re w tp d).cell? a = some v0 from hc]; dsimp only; rw [show (re w tp d).frozen? a = false from hf]; rfl
    cases hv <;> first | exact key (fun w => rfl) | exact .halt fun tp d => ⟨_, _, rfl⟩
  | @new R c c' e k k' hc _ ih =>
    intro e w tp d hd hw
    cases e
    obtain ⟨hw2, hef⟩ := hw.push (B := fun _ => True) (hw.newCells hc _)
    have hd2 : ∀ a b, R.add w.heap.size w.heap.size a b → a = b := fun a b x => x.elim (hd a b) fun y => y.1.trans y.2.symm
    exact (ih w.heap.size w.heap.size (fun b hb => by have := (hw.lt hb).1; omega) (fun b hb => by have := (hw.lt hb).2; omega) hw.low.1 hw.low.2 rfl tp d hd2 hw2).of fun tp d => rfl
  | @newN R x x' l k k' hc _ ih =>
    intro e w tp d hd hw
    cases e
    obtain ⟨hw2, hef⟩ := hw.push (B := fun _ => True) (hw.newNum hc l)
    have hd2 : ∀ a b, R.add w.heap.size w.heap.size a b → a = b := fun a b x => x.elim (hd a b) fun y => y.1.trans y.2.symm
    exact (ih w.heap.size w.heap.size (fun b hb => by have := (hw.lt hb).1; omega) (fun b hb => by have := (hw.lt hb).2; omega) hw.low.1 hw.low.2 rfl tp d hd2 hw2).of fun tp d => rfl
  | @newV R x x' u k k' hz hc _ ih =>
    intro e w tp d hd hw
    cases e
    obtain ⟨hw2, hef⟩ := hw.push (B := fun _ => True) (hw.newView hz hc)
    have hd2 : ∀ a b, R.add w.heap.size w.heap.size a b → a = b := fun a b x => x.elim (hd a b) fun y => y.1.trans y.2.symm
    exact (ih w.heap.size w.heap.size (fun b hb => by have := (hw.lt hb).1; omega) (fun b hb => by have := (hw.lt hb).2; omega) hw.low.1 hw.low.2 rfl tp d hd2 hw2).of fun tp d => rfl
  | @getN R r r' k k' hr0 _ _ ih ih2 =>
    intro e w tp d hd hw
    cases e
    obtain ⟨o, o', h1, h2, h3⟩ := hw.blk _ _ hr0
    rw [h1] at h2; cases h2
    cases h3 with
    | cells => exact .halt fun tp d => ⟨_, re w tp d, by simp only [Sem.run]; rw [show (re w tp d).heap[r]? = _ from h1]⟩
    | number h3 => exact (ih _ _ _ h3 rfl tp d hd hw).of fun tp d => by simp only [Sem.run]; rw [show (re w tp d).heap[r]? = _ from h1]
    | view hz h3 => exact (ih2 _ _ _ hz h3 rfl tp d hd hw).of fun tp d => by simp only [Sem.run]; rw [show (re w tp d).heap[r]? = _ from h1]
  | @shape R r r' k k' hr0 _ ih =>
    intro e w tp d hd hw
    cases e
    exact (ih (w.shape? r) _ (.inl rfl) rfl tp d hd hw).of fun tp d => rfl
  | @ustr R a a' e n k k' ha hu _ ih =>
    intro e' w tp d hd hw
    have haa : a' = a := by
      obtain ⟨b, o, s⟩ := a
      obtain ⟨b', o', s'⟩ := a'
      obtain ⟨h1, h2, h3⟩ := ha
      have := hd _ _ h1
      dsimp only at this h2 h3
      subst this h2 h3
      rfl
    subst haa
    by_cases hl : liesB X.P w a' e n = true
    · have hb : (loadBytes a' .empty n).runT X.P w #[] = ((loadBytes a' .empty n).run X.P w, ((loadBytes a' .empty n).runT X.P w #[]).2) := by rw [← Sem.runT_fst X.P _ _ #[]]
      have hlre : ∀ tp d, liesB X.P (re w tp d) a' e n = true := fun tp d => hl
      rcases hw.bytesU hV n .empty ha .nil hb with ⟨s, h1, h3⟩ | ⟨y, w2, h1, hy⟩
      · have hbr : ∀ tp d, (loadBytes a' .empty n).run X.P (re w tp d) = .ok s (re w tp d) := fun tp d => lb_re n h1
        have hk := ustr_inj e' hl (by rw [hb, h1])
        obtain ⟨hw2, hef⟩ := hw.freeze (B := fun _ => True) ha n fun _ _ _ _ => trivial
        exact (ih s hk tp d hd hw2).of fun tp d => by rw [ustr_run, if_pos (hlre tp d), hbr tp d]; simp only [re_freeze]
      · exact .halt fun tp d => by
          obtain ⟨x', w1', h2⟩ := lb_re_halt n h1 (tp := tp) (d := d)
          exact ⟨x', w1', by rw [ustr_run, if_pos (hlre tp d), h2]⟩
    · have hlre : ∀ tp d, ¬ liesB X.P (re w tp d) a' e n = true := fun tp d => hl
      exact .halt fun tp d => ⟨_, re w tp d, by rw [ustr_run, if_neg (hlre tp d)]⟩
  | @frozen R a a' k k' hfz ha _ ih =>
    intro e w tp d hd hw
    cases e
    exact (ih (w.frozen? a) rfl tp d hd hw).of fun tp d => rfl
  | @choose R q k k' _ ih =>
    intro e w tp d hd hw
    cases e
    by_cases hq : q.forced = true
    · exact (ih 0 rfl tp d hd hw).of fun tp d => by simp only [Sem.run]; rw [if_pos hq]
    · have run : ∀ tp d, (Sem.choose q k).run X.P (re w tp d) = (k (q.cut (tp d q))).run X.P (re w tp (d + 1)) := fun tp d => by simp only [Sem.run]; rw [if_neg hq]; rfl
      have := ih (q.cut (tp d q)) rfl tp (d + 1) hd hw
      have shift : ∀ {tp' d' k}, Agree tp' d' tp d (k + 1) → tp' d' q = tp d q ∧ Agree tp' (d' + 1) tp (d + 1) k := by
        intro tp' d' k ha
        refine ⟨by simpa using ha 0 (by omega) q, fun j hj q => ?_⟩
        have := ha (j + 1) (by omega) q
        rw [show d' + 1 + j = d' + (j + 1) by omega, show d + 1 + j = d + (j + 1) by omega]
        exact this
      refine ⟨fun a w1 x => ?_, fun x w1 y => ?_⟩
      · obtain ⟨k1, h1, h2⟩ := this.1 a w1 (by rw [← run]; exact x)
        refine ⟨k1 + 1, by rw [show d + (k1 + 1) = d + 1 + k1 by omega]; exact h1, fun tp' d' ha => ?_⟩
        obtain ⟨e1, e2⟩ := shift ha
        rw [run, e1, h2 tp' (d' + 1) e2, show d' + 1 + k1 = d' + (k1 + 1) by omega]
      · obtain ⟨k1, h2⟩ := this.2 x w1 (by rw [← run]; exact y)
        refine ⟨k1 + 1, fun tp' d' ha => ?_⟩
        obtain ⟨e1, e2⟩ := shift ha
        rw [run, e1]
        exact h2 tp' (d' + 1) e2
  | program _ ih =>
    intro e w tp d hd hw
    cases e
    exact (ih rfl tp d hd hw).of fun tp d => rfl
  | @mark R m k k' hm _ ih =>
    intro e w tp d hd hw
    cases e
    exact (ih rfl tp d hd hw).of fun tp d => rfl
  | @dead R s s' hdd =>
    intro e w tp d hd hw
    exact .halt fun tp d => by obtain ⟨y, w2, h1, h2⟩ := hdd (re w tp d); exact ⟨y, w2, h1⟩

end Go.Proofs.Ytcgjppacnhmjlaa.Sim
end

section
set_option linter.unusedVariables false
set_option linter.unusedSimpArgs false
set_option linter.unusedSectionVars false
/-! A lone contract, as what ends whatever is drawn. -/
namespace Go.Proofs.Ytcgjppacnhmjlaa.Sim
open Go
set_option linter.unusedVariables false

def door : String := "fmt's door: nobody's"
theorem door_with : door.startsWith "fmt's door" = true := by kernel_rfl
theorem door_none : Extern.next door = none := by kernel_rfl
/-- Whoever comes back to this frame is at the end. -/
def c0 (P : Program) : Frame := { fn := P.funcs.size, tmps := #[], todo := [.call { target := .nil, args := #[] } false door #[]], defers := [], mode := .run, kind := .normal }

section
variable {P : Program}

theorem bare_go {g g' : Goroutine} {w w' : World} {es : Array Event} (h : stepG P true g w = .go g' w' es) : (stepG P true g w).bare = .go g' w' := by rw [h]; rfl
theorem lone_go {fr fr1 : Frame} {cs cs1 : List Frame} {w w1 : World} {es : Array Event} (h : stepG P true (gor fr cs) w = .go (gor fr1 cs1) w1 es) : step P (lone fr cs w) = .next (lone fr1 cs1 w1) := step_lone_go (bare_go h)
theorem lone_ended {fr : Frame} {cs : List Frame} {w w1 : World} {o : Outcome} {es : Array Event} (h : stepG P true (gor fr cs) w = .ended o w1 es) : step P (lone fr cs w) = .ended o w1 := step_lone_ended (by show (stepG P true (gor fr cs) w).bare = _; rw [h]; rfl)

theorem run_ended {m : Machine} {o : Outcome} {w : World} (h : step P m = .ended o w) {n : Nat} {m' : Machine} (hr : runN P n m = .next m') : m' = m := by
  cases n with
  | zero => cases hr; rfl
  | succ n => simp only [runN, h] at hr; cases hr

/-- The last frame is nobody's. -/
theorem after_door {w : World} {v : Value} {n : Nat} {m' : Machine} (hr : runN P n (lone ((c0 P).finish v) [] w) = .next m') : m' = lone ((c0 P).finish v) [] w := by
  refine run_ended (o := .stuck ("no extern row " ++ door) (Frame.pos P ((c0 P).finish v))) (w := w) (lone_ended (es := #[]) ?_) hr
  simp [stepG, stepG.exec, gor, c0, Frame.finish, door_none]

theorem pan_run : ∀ (cs : List Frame) {fr : Frame} {w : World} {ch : List PanicEntry} {n : Nat} {m' : Machine}, fr.mode = .panicking ch → Plain fr → (∃ f, P.funcs[fr.fn]? = some f) → (∀ c ∈ cs, Plain c ∧ (∃ f, P.funcs[c.fn]? = some f) ∧ c.mode = .run) →
    runN P n (lone fr (cs ++ [c0 P]) w) = .next m' → ∃ fr' cs' w' ch', m' = lone fr' cs' w' ∧ fr'.mode = .panicking ch'
  | cs, fr, w, ch, 0, m', hm, _, _, _, hr => by cases hr; exact ⟨fr, _, w, ch, rfl, hm⟩
  | [], fr, w, ch, n + 1, m', hm, hp, ⟨f, hf⟩, _, hr => by
    have h1 : step P (lone fr [c0 P] w) = .next (lone ((c0 P).raise ch) [] w) := lone_go (es := #[]) (by
      simp [stepG, unwind, gor, hm, hp.defers, Frame.catches, hf])
    simp only [List.nil_append, runN, h1] at hr
    have h2 : step P (lone ((c0 P).raise ch) [] w) = .ended (.unsupported (.noEntry "a panic or Goexit out of a method that fmt calls behind a cut's door") (Frame.pos P ((c0 P).raise ch))) w := lone_ended (es := #[]) (by
      simp [stepG, unwind, gor, c0, Frame.raise, Frame.catches, door_with])
    rw [run_ended h2 hr]
    exact ⟨_, _, _, ch, rfl, rfl⟩
  | c :: cs, fr, w, ch, n + 1, m', hm, hp, ⟨f, hf⟩, hcs, hr => by
    have h1 : step P (lone fr (c :: cs ++ [c0 P]) w) = .next (lone (c.raise ch) (cs ++ [c0 P]) w) := lone_go (es := #[]) (by
      simp [stepG, unwind, gor, hm, hp.defers, Frame.catches, hf])
    obtain ⟨h3, h4, h5⟩ := hcs c (by simp)
    simp only [runN, h1] at hr
    have hraise : c.raise ch = { c with mode := .panicking ch } := by simp [Frame.raise, h5]
    exact pan_run cs (by rw [hraise]) (by rw [hraise]; exact ⟨h3.kind, h3.round, h3.defers⟩) (by rw [hraise]; exact h4) (fun c hc => hcs c (by simp [hc])) hr
end

def T0 : Tape := fun _ _ => 0
def nrm (w : World) : World := re w T0 0
/-- A lone run between its steps. -/
structure LS where
  fr : Frame
  fs : List Frame
  w : World
def LStep (P : Program) (s : LS) (tp : Tape) (d : Nat) : Option (LS × Nat) :=
  match (stepS P s.fr s.fs).run P (re s.w tp d) with
  | .ok p w1 => some (⟨p.1, p.2, nrm w1⟩, w1.drawn - d)
  | .halt _ _ => none
def LInv (X : Ctx) (P : Program) (fs : List Nat) (fz : Bool) (vs : List Nat) (s : LS) : Prop :=
  ∃ R, (∀ a b, R a b → a = b) ∧ WR X.vw X.P.globals.size X.G R (fun _ _ => False) s.w s.w ∧ StkR X P fs fz vs R (s.fr, s.fs) (s.fr, s.fs)

section
variable {X : Ctx} {P : Program} {fs vs : List Nat} {fz : Bool} {s s1 : LS} {tp tp' : Tape} {d d' k : Nat}

theorem LInv.sem (G : Good X P fs fz vs) (h : LInv X P fs fz vs s) : ∃ R, (∀ a b, R a b → a = b) ∧ WR X.vw X.P.globals.size X.G R (fun _ _ => False) s.w s.w ∧ StkR X P fs fz vs R (s.fr, s.fs) (s.fr, s.fs) ∧ SemR X (StkR X P fs fz vs) R (stepS X.P s.fr s.fs) (stepS X.P s.fr s.fs) := by
  obtain ⟨R, h1, h2, h3⟩ := h
  exact ⟨R, h1, h2, h3, r_stepS G h2.fine h3.1 h3.2⟩

theorem lstep_local (G : Good X P fs fz vs) (hV : ∀ u, X.vw u → NoFl X.P u) (h : LInv X P fs fz vs s) : LocU X.P (stepS X.P s.fr s.fs) s.w tp d := by
  obtain ⟨R, h1, h2, h3, h4⟩ := h.sem G
  exact h4.preU hV rfl tp d h1 h2
theorem lstep_some (G : Good X P fs fz vs) (hV : ∀ u, X.vw u → NoFl X.P u) (h : LInv X P fs fz vs s) (hs : LStep X.P s tp d = some (s1, k)) (ha : Agree tp' d' tp d k) : LStep X.P s tp' d' = some (s1, k) := by
  unfold LStep at hs ⊢
  cases hr : (stepS X.P s.fr s.fs).run X.P (re s.w tp d) with
  | halt x w1 => rw [hr] at hs; cases hs
  | ok p w1 =>
    rw [hr] at hs
    obtain ⟨k1, e1, e2⟩ := (lstep_local G hV h (tp := tp) (d := d)).1 p w1 hr
    have hk : w1.drawn = d + k1 := by rw [e1]; rfl
    cases hs
    rw [hk, show d + k1 - d = k1 by omega] at ha
    rw [e2 tp' d' ha]
    simp only [Option.some.injEq, Prod.mk.injEq]
    refine ⟨rfl, ?_⟩
    show d' + k1 - d' = w1.drawn - d
    omega
theorem lstep_none (G : Good X P fs fz vs) (hV : ∀ u, X.vw u → NoFl X.P u) (h : LInv X P fs fz vs s) (hs : LStep X.P s tp d = none) : ∃ k, ∀ tp' d', Agree tp' d' tp d k → LStep X.P s tp' d' = none := by
  unfold LStep at hs
  cases hr : (stepS X.P s.fr s.fs).run X.P (re s.w tp d) with
  | ok p w1 => rw [hr] at hs; cases hs
  | halt x w1 =>
    obtain ⟨k1, e2⟩ := (lstep_local G hV h (tp := tp) (d := d)).2 x w1 hr
    refine ⟨k1, fun tp' d' ha => ?_⟩
    obtain ⟨x', w', e⟩ := e2 tp' d' ha
    unfold LStep
    rw [e]
theorem lstep_run (G : Good X P fs fz vs) (hV : ∀ u, X.vw u → NoFl X.P u) (h : LInv X P fs fz vs s) {p : Stk} {w1 : World} (hr : (stepS X.P s.fr s.fs).run X.P (re s.w tp d) = .ok p w1) : LInv X P fs fz vs ⟨p.1, p.2, nrm w1⟩ := by
  obtain ⟨R, h1, h2, h3, h4⟩ := h.sem G
  have := h4.soundU hV rfl h1 (re_WR h2 tp tp d d) (es := #[]) .nil (r := (stepS X.P s.fr s.fs).run X.P (re s.w tp d)) (es1 := ((stepS X.P s.fr s.fs).runT X.P (re s.w tp d) #[]).2) (by rw [← Sem.runT_fst X.P _ _ #[]])
  rw [hr] at this
  obtain ⟨R1, e1, e2, e3, _, _⟩ := this
  exact ⟨R1, e1, re_WR e3 _ _ _ _, e2⟩
theorem lstep_keep (G : Good X P fs fz vs) (hV : ∀ u, X.vw u → NoFl X.P u) (h : LInv X P fs fz vs s) (hs : LStep X.P s tp d = some (s1, k)) : LInv X P fs fz vs s1 := by
  unfold LStep at hs
  cases hr : (stepS X.P s.fr s.fs).run X.P (re s.w tp d) with
  | halt x w1 => rw [hr] at hs; cases hs
  | ok p w1 => rw [hr] at hs; cases hs; exact lstep_run G hV h hr

theorem okItem_shape {i : Item} (h : okItem P fs fz vs i = true) : (∃ c, i = .code c ∧ match c with | .skip | .ret | .seq _ _ | .cond _ _ _ | .block _ _ | .loop _ | .exit _ | .region _ _ _ => True | _ => False) ∨ (∃ id, i = .inBlock id) ∨ (∃ b, i = .inLoop b) ∨ ∃ ops l, i = .inRegion ops l := by
  cases i with
  | code c => left; refine ⟨c, rfl, ?_⟩; cases c <;> first | trivial | cases h
  | inBlock id => exact .inr (.inl ⟨id, rfl⟩)
  | inLoop b => exact .inr (.inr (.inl ⟨b, rfl⟩))
  | inRegion ops l => exact .inr (.inr (.inr ⟨ops, l, rfl⟩))
  | _ => cases h

theorem LInv.next (G : Good X P fs fz vs) (hV : ∀ u, X.vw u → NoFl X.P u) (h : LInv X P fs fz vs s) {o : Oper} {n : Next} {w2 : World} {es2 : Array Event} (ho : s.fr.oper? = some o) (hr : (execOp s.fr.eval o).runT X.P (re s.w tp d) #[] = (.ok n w2, es2)) : NextOk n := by
  obtain ⟨R, h1, h2, h3⟩ := h
  have hok : okOp P fs fz vs o.op = true := by
    unfold Frame.oper? at ho
    split at ho
    · rename_i ops i rest k ht
      have := h3.1.items (.inRegion ops (i :: rest)) (by show _ ∈ s.fr.todo; rw [ht]; simp)
      exact (Array.all_eq_true_iff_forall_mem.1 this) o (Array.mem_of_getElem? ho)
    · cases ho
  have := (r_execOp G.hX G.F h2.fine (ρ := s.fr.eval) (ρ' := s.fr.eval) (fun x hx => h3.1.eval G x hx) (fun v => ⟨rfl, rfl⟩) o hok).soundU hV rfl h1 (re_WR h2 tp tp d d) (es := #[]) .nil hr
  obtain ⟨R1, _, e2, _, _, _⟩ := this
  cases e2 <;> trivial

theorem LInv.dead (G : Good X P fs fz vs) (hV : ∀ u, X.vw u → NoFl X.P u) (h : LInv X P fs fz vs s) (hne : s.fr.mode = .returning → s.fs ≠ []) {x : Halt} {w1 : World} (hr : (stepS X.P s.fr s.fs).run X.P (re s.w tp d) = .halt x w1) (cs : List Frame) {main : Bool} : Bad s.fr cs (stepG X.P main (gor s.fr cs) (re s.w tp d)) := by
  have hx : Dead x := by
    obtain ⟨R, h1, h2, h3, h4⟩ := h.sem G
    have := h4.soundU hV rfl h1 (re_WR h2 tp tp d d) (es := #[]) .nil (r := (stepS X.P s.fr s.fs).run X.P (re s.w tp d)) (es1 := ((stepS X.P s.fr s.fs).runT X.P (re s.w tp d) #[]).2) (by rw [← Sem.runT_fst X.P _ _ #[]])
    rw [hr] at this
    exact this
  have hrT : (stepS X.P s.fr s.fs).runT X.P (re s.w tp d) #[] = (.halt x w1, ((stepS X.P s.fr s.fs).runT X.P (re s.w tp d) #[]).2) := by rw [← hr, ← Sem.runT_fst X.P _ _ #[]]
  obtain ⟨R, h1, h2, h3⟩ := id h
  refine step_dead h3.1.p cs h3.1.g hne (fun ch e => ?_) hrT hx (fun o n w2 es2 ho hr => h.next G hV ho hr) fun i k ht => okItem_shape (h3.1.items i (by show i ∈ s.fr.todo; rw [ht]; simp))
  rcases h3.1.nm with e' | e' <;> · rw [e'] at e; cases e

theorem FsR.plain {R : BR} {l l' : List Frame} (h : FsR X P fs fz vs R l l') : ∀ c ∈ l, Plain c ∧ (∃ f, X.P.funcs[c.fn]? = some f) ∧ c.mode = .run := by
  induction h with
  | nil => intro c hc; cases hc
  | cons h1 h2 _ ih =>
    intro c hc
    rcases List.mem_cons.1 hc with rfl | hc
    · exact ⟨h1.p, h1.g, h2⟩
    · exact ih c hc

theorem lone_run (G : Good X P fs fz vs) (hV : ∀ u, X.vw u → NoFl X.P u) {frE : Frame} {wE : World} (hE : ∀ ch, frE.mode ≠ .panicking ch) : ∀ (n : Nat) (s : LS) (tp : Tape) (d : Nat), LInv X P fs fz vs s → runN X.P n (lone s.fr (s.fs ++ [c0 X.P]) (re s.w tp d)) = .next (lone frE [c0 X.P] wE) →
    ∃ n' s' d', runS (LStep X.P) n' s tp d = some (s', d') ∧ s'.fs = [] ∧ s'.fr = frE ∧ nrm s'.w = nrm wE := by
  intro n
  induction n with
  | zero =>
    intro s tp d hi hr
    obtain ⟨fr, l, w⟩ := s
    simp only [runN, Stepped.next.injEq, lone, Machine.mk.injEq, Array.mk.injEq, List.cons.injEq, Goroutine.mk.injEq, and_true] at hr
    obtain ⟨e1, e2, e3⟩ := hr
    refine ⟨0, ⟨fr, l, w⟩, d, rfl, ?_, e2, by rw [← e1]; rfl⟩
    cases l with
    | nil => rfl
    | cons c l => exact absurd e3 (by intro h; have := congrArg List.length h; simp at this)
  | succ n ih =>
    intro s tp d hi hr
    have hi' := hi
    obtain ⟨R, h1, h2, h3⟩ := hi'
    by_cases hst : s.fr.mode = .returning ∧ s.fs = []
    · exfalso
      obtain ⟨hm, hf⟩ := hst
      obtain ⟨f, hfn⟩ := h3.1.g
      have hd := h3.1.p.defers
      have hk := h3.1.p.kind
      dsimp only at hfn hd hk
      cases hres : (results f s.fr.tmps).runT X.P (re s.w tp d) #[] with
      | mk r es =>
        cases r with
        | ok v w2 =>
          have : step X.P (lone s.fr (s.fs ++ [c0 X.P]) (re s.w tp d)) = .next (lone ((c0 X.P).finish v) [] w2) := lone_go (es := seen X.P s.fr.fn es) (by
            rw [hf]
            simp [stepG, unwind, gor, hm, hd, hfn, hres, hk, doReturn, GStep.after, -Sem.runT_eq])
          simp only [runN, this] at hr
          have := after_door hr
          simp only [lone, Machine.mk.injEq, Array.mk.injEq, List.cons.injEq, Goroutine.mk.injEq] at this
          simp at this
        | halt x w2 =>
          have : ∃ o w', step X.P (lone s.fr (s.fs ++ [c0 X.P]) (re s.w tp d)) = .ended o w' := by
            rw [hf]
            have : ∃ o w' es', stepG X.P true (gor s.fr [c0 X.P]) (re s.w tp d) = .ended o w' es' := by
              cases x <;> simp [stepG, unwind, gor, hm, hd, hfn, hres, GStep.after, -Sem.runT_eq]
            obtain ⟨o, w', es', e⟩ := this
            exact ⟨o, w', lone_ended e⟩
          obtain ⟨o, w', e⟩ := this
          simp only [runN, e] at hr
          cases hr
    · have hne : s.fr.mode = .returning → s.fs ≠ [] := fun e e' => hst ⟨e, e'⟩
      cases hs : (stepS X.P s.fr s.fs).run X.P (re s.w tp d) with
      | ok p w1 =>
        have hT : (stepS X.P s.fr s.fs).runT X.P (re s.w tp d) #[] = (.ok (p.1, p.2) w1, ((stepS X.P s.fr s.fs).runT X.P (re s.w tp d) #[]).2) := by rw [show (p.1, p.2) = p from rfl, ← hs, ← Sem.runT_fst X.P _ _ #[]]
        have hgo := lone_go (step_ok (main := true) h3.1.p [c0 X.P] hT)
        simp only [runN, hgo] at hr
        obtain ⟨k, e1, _⟩ := (lstep_local G hV hi (tp := tp) (d := d)).1 p w1 hs
        have hk : w1.drawn = d + k := by rw [e1]; rfl
        have hl : LStep X.P s tp d = some (⟨p.1, p.2, nrm w1⟩, k) := by
          unfold LStep
          rw [hs]
          simp only [Option.some.injEq, Prod.mk.injEq, true_and]
          omega
        obtain ⟨n', s', d', r1, r2, r3, r4⟩ := ih ⟨p.1, p.2, nrm w1⟩ tp (d + k) (lstep_run G hV hi hs) (by
          show runN X.P n (lone p.1 (p.2 ++ [c0 X.P]) (re (nrm w1) tp (d + k))) = _
          rw [show re (nrm w1) tp (d + k) = w1 from e1.symm]
          exact hr)
        exact ⟨n' + 1, s', d', by simp only [runS, hl]; exact r1, r2, r3, r4⟩
      | halt x w1 =>
        exfalso
        rcases hi.dead G hV hne hs (s.fs ++ [c0 X.P]) (main := true) with ⟨o, w', es', e⟩ | ⟨ch, w', es', e⟩
        · simp only [runN, lone_ended e] at hr; cases hr
        · simp only [runN, lone_go e] at hr
          have hmr : s.fr.mode = .run ∨ s.fr.mode = .returning := h3.1.nm
          have hraise : s.fr.raise ch = { s.fr with mode := .panicking ch } := by
            unfold Frame.raise
            rcases hmr with e | e <;> rw [e]
          have hpl := h3.1.p
          obtain ⟨fr', cs', w2, ch', e2, e3⟩ := pan_run s.fs (P := X.P) (ch := ch) (by rw [hraise]) (by rw [hraise]; exact ⟨hpl.kind, hpl.round, hpl.defers⟩) (by rw [hraise]; exact h3.1.g) h3.2.plain hr
          simp only [lone, Machine.mk.injEq, Array.mk.injEq, List.cons.injEq, Goroutine.mk.injEq] at e2
          exact hE ch' (by rw [e2.2.1.1.1]; exact e3)
end

end Go.Proofs.Ytcgjppacnhmjlaa.Sim
end

section
set_option linter.unusedVariables false
set_option linter.unusedSimpArgs false
set_option linter.unusedSectionVars false
/-! A lone contract, as what ends whatever is drawn, on. -/
namespace Go.Proofs.Ytcgjppacnhmjlaa.Sim
open Go
set_option linter.unusedVariables false

theorem nrm_eq {w w' : World} (h : nrm w = nrm w') : w = re w' w.tape w.drawn := by
  obtain ⟨h1, t1, d1, o1, u1⟩ := w
  obtain ⟨h2, t2, d2, o2, u2⟩ := w'
  simp only [nrm, re, World.mk.injEq] at h ⊢
  simp_all

/-- The lone run stands at its return. -/
def LStop (P : Program) (Post : Value → World → Prop) (s : LS) : Prop :=
  s.fs = [] ∧ s.fr.mode = .returning ∧ ∃ v fn, Post v s.w ∧ P.funcs[s.fr.fn]? = some fn ∧ ∀ tp d, (results fn s.fr.tmps).run P (re s.w tp d) = .ok v (re s.w tp d)

section
variable {X : Ctx} {P : Program} {fs vs : List Nat} {fz : Bool}

theorem run_inv (G : Good X P fs fz vs) (hV : ∀ u, X.vw u → NoFl X.P u) : ∀ (n : Nat) (s s' : LS) (tp : Tape) (d d' : Nat), LInv X P fs fz vs s → runS (LStep X.P) n s tp d = some (s', d') → LInv X P fs fz vs s'
  | 0, s, s', tp, d, d', hi, h => by cases h; exact hi
  | n + 1, s, s', tp, d, d', hi, h => by
    simp only [runS] at h
    split at h
    · rename_i s1 k hs; exact run_inv G hV n s1 s' tp _ d' (lstep_keep G hV hi hs) h
    · cases h

theorem ev_calls (G : Good X P fs fz vs) (hV : ∀ u, X.vw u → NoFl X.P u) {f : FuncId} (hg : X.G f) (hb : ∃ fn c, X.P.funcs[f]? = some fn ∧ fn.body = some c) {args : Array Value} {w : World} {R : BR} (hd : ∀ a b, R a b → a = b)
    (hw : WR X.vw X.P.globals.size X.G R (fun _ _ => False) w w) (ha : AVR X.G R args args) {Post : Value → World → Prop} (hp : ∀ v w tp d, Post v w → Post v (re w tp d))
    (hc : ∀ tp, Calls X.P f args (re w tp 0) fun e w' => ∃ v, e = .returned v ∧ Post v w') : Ev (LStep X.P) (LStop X.P Post) ⟨Frame.enter X.P f args .normal, [], nrm w⟩ := by
  have hi : LInv X P fs fz vs ⟨Frame.enter X.P f args .normal, [], nrm w⟩ := ⟨R, hd, re_WR hw _ _ _ _, FrameR.enter G hg ha hb, .nil⟩
  refine ev_of_runs (Inv := LInv X P fs fz vs) (fun s tp d s1 k hi hs tp' d' ha => lstep_some G hV hi hs ha) (fun s tp d hi hs => lstep_none G hV hi hs) (fun s tp d s1 k hi hs => lstep_keep G hV hi hs) hi fun tp => ?_
  obtain ⟨e, wE, frE, ⟨v, rfl, hpost⟩, hcomes, hfn, hleave⟩ := hc tp [c0 X.P]
  obtain ⟨n, hn⟩ := hcomes
  obtain ⟨hm, hdf, hk, fn, hf, hres⟩ := hleave
  obtain ⟨n', s', d', r1, r2, r3, r4⟩ := lone_run G hV (fun ch e => by rw [hm] at e; cases e) n ⟨Frame.enter X.P f args .normal, [], nrm w⟩ tp 0 hi (by exact hn)
  refine ⟨n', s', d', r1, r2, by rw [r3]; exact hm, v, fn, ?_, by rw [r3]; exact hf, ?_⟩
  · rw [nrm_eq r4]; exact hp v wE _ _ hpost
  · have hi' := run_inv G hV n' _ _ _ _ _ hi r1
    obtain ⟨R1, e1, e2, e3⟩ := hi'
    rw [r3]
    have ht := e3.1.tmps
    dsimp only at ht
    rw [r3] at ht
    have hwE : wE = re s'.w wE.tape wE.drawn := nrm_eq r4.symm
    have hl := (r_results fn ht).preU hV rfl wE.tape wE.drawn e1 e2
    obtain ⟨k, h1, h2⟩ := hl.1 v wE (by rw [← hwE]; exact hres)
    have hk0 : k = 0 := by
      have := congrArg World.drawn h1
      simp only [re] at this
      omega
    subst hk0
    intro tp' d''
    rw [h2 tp' d'' (fun j hj => by omega)]
    rw [hwE]
    rfl

theorem ev_callsF (G : Good X P fs fz vs) (hV : ∀ u, X.vw u → NoFl X.P u) {f : FuncId} (hg : X.G f) (hb : ∃ fn c, X.P.funcs[f]? = some fn ∧ fn.body = some c) {args : Array Value} {w : World} {R : BR} (hd : ∀ a b, R a b → a = b)
    (hw : WR X.vw X.P.globals.size X.G R (fun _ _ => False) w w) (ha : AVR X.G R args args) {Post : Value → World → Prop} (hp : ∀ v w tp d, Post v w → Post v (re w tp d))
    (hc : ∀ tp, Calls X.P f args (re w tp 0) fun e w' => ∃ v, e = .returned v ∧ Post v w') : Ev (LStep X.P) (fun s => LStop X.P Post s ∧ s.fr.fn = f) ⟨Frame.enter X.P f args .normal, [], nrm w⟩ := by
  have hi : LInv X P fs fz vs ⟨Frame.enter X.P f args .normal, [], nrm w⟩ := ⟨R, hd, re_WR hw _ _ _ _, FrameR.enter G hg ha hb, .nil⟩
  refine ev_of_runs (Inv := LInv X P fs fz vs) (fun s tp d s1 k hi hs tp' d' ha => lstep_some G hV hi hs ha) (fun s tp d hi hs => lstep_none G hV hi hs) (fun s tp d s1 k hi hs => lstep_keep G hV hi hs) hi fun tp => ?_
  obtain ⟨e, wE, frE, ⟨v, rfl, hpost⟩, hcomes, hfn, hleave⟩ := hc tp [c0 X.P]
  obtain ⟨n, hn⟩ := hcomes
  obtain ⟨hm, hdf, hk, fn, hf, hres⟩ := hleave
  obtain ⟨n', s', d', r1, r2, r3, r4⟩ := lone_run G hV (fun ch e => by rw [hm] at e; cases e) n ⟨Frame.enter X.P f args .normal, [], nrm w⟩ tp 0 hi (by exact hn)
  refine ⟨n', s', d', r1, ⟨r2, by rw [r3]; exact hm, v, fn, ?_, by rw [r3]; exact hf, ?_⟩, by rw [r3]; exact hfn⟩
  · rw [nrm_eq r4]; exact hp v wE _ _ hpost
  · have hi' := run_inv G hV n' _ _ _ _ _ hi r1
    obtain ⟨R1, e1, e2, e3⟩ := hi'
    rw [r3]
    have ht := e3.1.tmps
    dsimp only at ht
    rw [r3] at ht
    have hwE : wE = re s'.w wE.tape wE.drawn := nrm_eq r4.symm
    have hl := (r_results fn ht).preU hV rfl wE.tape wE.drawn e1 e2
    obtain ⟨k, h1, h2⟩ := hl.1 v wE (by rw [← hwE]; exact hres)
    have hk0 : k = 0 := by
      have := congrArg World.drawn h1
      simp only [re] at this
      omega
    subst hk0
    intro tp' d''
    rw [h2 tp' d'' (fun j hj => by omega)]
    rw [hwE]
    rfl

/-- What every lone run reaches is reached whatever is drawn. -/
theorem ev_reach (G : Good X P fs fz vs) (hV : ∀ u, X.vw u → NoFl X.P u) {s : LS} (hi : LInv X P fs fz vs s) {St : Frame → World → Prop} (hp : ∀ fr w tp d, St fr w → St fr (re w tp d))
    (hc : ∀ tp, ∃ n frE wE, runN X.P n (lone s.fr (s.fs ++ [c0 X.P]) (re s.w tp 0)) = .next (lone frE [c0 X.P] wE) ∧ (∀ ch, frE.mode ≠ .panicking ch) ∧ St frE wE) : Ev (LStep X.P) (fun s' => s'.fs = [] ∧ St s'.fr s'.w) s := by
  refine ev_of_runs (Inv := LInv X P fs fz vs) (fun s tp d s1 k hi hs tp' d' ha => lstep_some G hV hi hs ha) (fun s tp d hi hs => lstep_none G hV hi hs) (fun s tp d s1 k hi hs => lstep_keep G hV hi hs) hi fun tp => ?_
  obtain ⟨n, frE, wE, hn, hm, hst⟩ := hc tp
  obtain ⟨n', s', d', r1, r2, r3, r4⟩ := lone_run G hV hm n s tp 0 hi hn
  refine ⟨n', s', d', r1, r2, ?_⟩
  rw [nrm_eq r4, r3]
  exact hp frE wE _ _ hst
end

end Go.Proofs.Ytcgjppacnhmjlaa.Sim
end

section
set_option linter.unusedVariables false
set_option linter.unusedSimpArgs false
set_option linter.unusedSectionVars false
/-! A worker in company: what its lone contract says of its steps there. -/
namespace Go.Proofs.Ytcgjppacnhmjlaa.Sim
open Go
set_option linter.unusedVariables false

/-- What is in the block stays, but for what is frozen. -/
def SameC (w w1 : World) (b : Nat) : Prop := ∀ c e f, w.heap[b]? = some (.cells c e f) → ∃ f1, w1.heap[b]? = some (.cells c e f1)
/-- Others write the other cells of this block alone: each stays a pointer, or a number. -/
def PayKeep (B i : Nat) (w w1 : World) : Prop := ∀ c e f, w.heap[B]? = some (.cells c e f) → ∃ c1, w1.heap[B]? = some (.cells c1 e f) ∧ c1.size = c.size ∧ c1[i]? = c[i]? ∧ ∀ (j : Nat) (v : Value), c1[j]? = some v → (∃ a, v = Value.pointer a) ∨ ∃ k n, v = Value.int k n
/-- What is this one's: 'ro': what it reads alone; 'Y', 'i': the blocks in which it owns cell number i. -/
structure Zone where
  ro : Nat → Prop
  Y : Nat → Prop
  i : Nat
/-- What the others may do to the world meanwhile. 'M': what is its own. -/
structure Rely (z : Zone) (M : Nat → Prop) (w w1 : World) : Prop where
  size : w.heap.size ≤ w1.heap.size
  ro : ∀ b, z.ro b → SameC w w1 b
  own : ∀ b, M b → w1.heap[b]? = w.heap[b]?
  pay : ∀ b, z.Y b → PayKeep b z.i w w1
def grow (M : Nat → Prop) (w w1 : World) : Nat → Prop := fun b => M b ∨ (w.heap.size ≤ b ∧ b < w1.heap.size)
/-- What a step of its own lists. -/
def EvOk (z : Zone) (M : Nat → Prop) (e : Event) : Prop :=
  (∃ a, e.loc = .cell a ∧ (M a.block ∨ (z.Y a.block ∧ (e.write = true → a.off = z.i)) ∨ (z.ro a.block ∧ e.write = false))) ∨ (∃ r, e.loc = .obj r ∧ (M r ∨ z.Y r ∨ z.ro r) ∧ e.write = false) ∨ e.loc = .mark .noRoom ∨ ∃ f, e.loc = .mark (.extern f)
/-- What a step of its own does. -/
structure Guar (z : Zone) (M : Nat → Prop) (w w1 : World) (es : Array Event) : Prop where
  size : w.heap.size ≤ w1.heap.size
  ro : ∀ b, z.ro b → SameC w w1 b
  pay : ∀ b, z.Y b → ∀ c e f, w.heap[b]? = some (.cells c e f) → ∃ c1 f1, w1.heap[b]? = some (.cells c1 e f1) ∧ c1.size = c.size ∧ ∀ j, j ≠ z.i → c1[j]? = c[j]?
  out : ∀ b, b < w.heap.size → ¬ M b → ¬ z.ro b → ¬ z.Y b → w1.heap[b]? = w.heap[b]?
  tape : w1.tape = w.tape
  os : w1.os = w.os
  output : w1.output = w.output
  ev : ∀ e ∈ es, EvOk z (grow M w w1) e

/-- A worker's steps in company, till it stands at the end. -/
inductive CoW (P : Program) (z : Zone) (Q : (Nat → Prop) → Frame → World → Prop) : (Nat → Prop) → Frame → List Frame → World → Prop
  | done {M : Nat → Prop} {fr : Frame} {w : World} : (∀ w1, Rely z M w w1 → Q M fr w1) → CoW P z Q M fr [] w
  | step {M : Nat → Prop} {fr : Frame} {fs : List Frame} {w : World} : Plain fr → (∀ w1, Rely z M w w1 → ∃ p w' es, (stepS P fr fs).runT P w1 #[] = (.ok p w', es) ∧ Guar z M w1 w' es) →
      (∀ w1 p w' es, Rely z M w w1 → (stepS P fr fs).runT P w1 #[] = (.ok p w', es) → CoW P z Q (grow M w1 w') p.1 p.2 w') → CoW P z Q M fr fs w

section
variable {X : Ctx} {P : Program} {fs vs : List Nat} {fz : Bool}

/-- One step over the two memories. -/
theorem sim_step (G : Good X P fs fz vs) (hvw : X.vw = fun _ => False) (hfz : X.fz = false) {R : BR} {S : Nat → Nat → Prop} {s s1 : LS} {k : Nat} {fr' : Frame} {fs' : List Frame} {w' : World}
    (hw : WR X.vw X.P.globals.size X.G R S s.w w') (hk : StkR X P fs fz vs R (s.fr, s.fs) (fr', fs')) (hs : LStep X.P s w'.tape w'.drawn = some (s1, k)) :
    ∃ R1 p' w1 w1' es es', (stepS X.P fr' fs').runT X.P w' #[] = (.ok p' w1', es') ∧ StkR X P fs fz vs R1 (s1.fr, s1.fs) p' ∧ s1.w = nrm w1 ∧ WR X.vw X.P.globals.size X.G R1 S w1 w1' ∧ Eff (ByteTy X.P) S R R1 (re s.w w'.tape w'.drawn) w' w1 w1' ∧ EvA S R1 es es' := by
  unfold LStep at hs
  cases hr : (stepS X.P s.fr s.fs).run X.P (re s.w w'.tape w'.drawn) with
  | halt x w1 => rw [hr] at hs; cases hs
  | ok p w1 =>
    rw [hr] at hs
    cases hs
    have hT : (stepS X.P s.fr s.fs).runT X.P (re s.w w'.tape w'.drawn) #[] = (.ok p w1, ((stepS X.P s.fr s.fs).runT X.P (re s.w w'.tape w'.drawn) #[]).2) := by rw [← hr, ← Sem.runT_fst X.P _ _ #[]]
    have hw2 : WR X.vw X.P.globals.size X.G R S (re s.w w'.tape w'.drawn) w' := by
      have := re_WR hw w'.tape w'.tape w'.drawn w'.drawn
      rwa [re_self] at this
    obtain ⟨R1, p', w1', es', e1, e2, e3, e4, e5⟩ := (r_stepS G hw.fine hk.1 hk.2).sound hvw hw2 (fun e => by rw [hfz] at e; cases e) (es := #[]) (es' := #[]) .nil hT (fun j q _ => rfl)
    exact ⟨R1, p', w1, w1', _, es', e1, e2, rfl, e3, e4, e5⟩

/-- Of which kind the blocks are that a worker knows of. -/
def Class (z : Zone) (M : Nat → Prop) (R : BR) (S : Nat → Nat → Prop) (w : World) : Prop :=
  ∀ a b, R a b → (z.ro b ∧ (∀ j, S a j)) ∨ (M b ∧ ∀ j, ¬ S a j)

theorem Class.rely {z : Zone} {M : Nat → Prop} {R : BR} {S : Nat → Nat → Prop} {w w' w'' : World} (hc : Class z M R S w) (hw : WR X.vw X.P.globals.size X.G R S w w') (hr : Rely z M w' w'') : WR X.vw X.P.globals.size X.G R S w w'' := by
  refine ⟨hw.fine, ⟨hw.low.1, Nat.le_trans hw.low.2 hr.size⟩, hw.sl, fun a b hab => ?_⟩
  obtain ⟨o, o', h1, h2, h3⟩ := hw.blk a b hab
  rcases hc a b hab with ⟨hro, hS⟩ | ⟨hM, hS⟩
  · cases h3 with
    | number _ hn => exact absurd (hS 0) (hn 0)
    | view _ _ hn => exact absurd (hS 0) (hn 0)
    | cells h4 h5 h6 h7 =>
      obtain ⟨f1, h8⟩ := hr.ro b hro _ _ _ h2
      exact ⟨_, _, h1, h8, .cells h4 (fun ⟨j, hj⟩ => absurd (hS j) hj) (fun hn => absurd (hS 0) (hn 0)) h7⟩
  · exact ⟨o, o', h1, by rw [hr.own b hM]; exact h2, h3⟩

theorem evs_mem {S : Nat → Nat → Prop} {R : BR} {l l' : List Event} (h : Evs S R l l') {e' : Event} (he : e' ∈ l') : ∃ e, EvR S R e e' := by
  induction h with
  | nil => cases he
  | cons h1 _ ih =>
    rcases List.mem_cons.1 he with rfl | he
    · exact ⟨_, h1⟩
    · exact ih he

theorem same_of_kept {S : Nat → Nat → Prop} {a b : Nat} {w w1 : World} (h : Kept S a w w1 b) (hS : ∀ j, S a j) : SameC w w1 b := by
  intro c e f hc
  obtain ⟨c0, e0, f0, c1, f1, h1, h2, h3, h4⟩ := h
  rw [hc] at h1; cases h1
  refine ⟨f1, ?_⟩
  rw [h2]
  have : c1 = c := Array.ext' (List.ext_getElem? fun j => by simpa using h4 j (hS j))
  rw [this]

theorem guar_of_step {z : Zone} {M : Nat → Prop} {R R1 : BR} {S : Nat → Nat → Prop} {w wl w1 w1' wl1 : World} {es es' : Array Event} (hc : Class z M R S w) (hw : WR X.vw X.P.globals.size X.G R1 S wl1 w1')
    (hd : ∀ b, (z.ro b → ¬ M b ∧ ¬ z.Y b) ∧ (z.Y b → ¬ M b)) (he : Eff (ByteTy X.P) S R R1 wl w1 wl1 w1') (hev : EvA S R1 es es') : Guar z M w1 w1' es' := by
  refine ⟨he.sz', fun b hb => ?_, fun b hb c e f hcc => ?_, fun b hlt hM hro hY => ?_, he.tape', he.os', he.output', fun e' he' => ?_⟩
  · by_cases ha : ∃ a, R a b
    · obtain ⟨a, ha⟩ := ha
      rcases hc a b ha with ⟨_, hS⟩ | ⟨hM, _⟩
      · exact same_of_kept (he.sld a b 0 ha (hS 0)).1 hS
      · exact absurd hM ((hd b).1 hb).1
    · intro c e f hcc
      have hlt : b < w1.heap.size := (Array.getElem?_eq_some_iff.1 hcc).1
      exact ⟨f, by rw [he.out b hlt fun a x => ha ⟨a, x⟩]; exact hcc⟩
  · by_cases ha : ∃ a, R a b
    · obtain ⟨a, ha⟩ := ha
      rcases hc a b ha with ⟨hro, _⟩ | ⟨hM, _⟩
      · exact absurd hb ((hd b).1 hro).2
      · exact absurd hM ((hd b).2 hb)
    · have hlt : b < w1.heap.size := (Array.getElem?_eq_some_iff.1 hcc).1
      exact ⟨c, f, by rw [he.out b hlt fun a x => ha ⟨a, x⟩]; exact hcc, rfl, fun _ _ => rfl⟩
  · exact he.out b hlt fun a ha => by
      rcases hc a b ha with ⟨h, _⟩ | ⟨h, _⟩
      · exact hro h
      · exact hM h
  · obtain ⟨e, h⟩ := evs_mem hev (by simpa using he')
    have hfresh : ∀ {a b}, R1 a b → R a b ∨ grow M w1 w1' b := fun {a b} hab => (he.new a b hab).imp id fun x => .inr ⟨x.2, (hw.lt hab).2⟩
    have hloc := h.loc
    cases hl : e.loc with
    | cell a =>
      cases hl' : e'.loc with
      | cell a' =>
        rw [hl, hl'] at hloc
        obtain ⟨har, hws⟩ := hloc
        refine .inl ⟨a', hl', ?_⟩
        rcases hfresh har.1 with hR | hg
        · rcases hc _ _ hR with ⟨hro, hS⟩ | ⟨hM, _⟩
          · refine .inr (.inr ⟨hro, ?_⟩)
            rw [h.wr]
            cases hww : e.write with
            | false => rfl
            | true => exact absurd (hS _) (hws hww)
          · exact .inl (.inl hM)
        · exact .inl hg
      | _ => rw [hl, hl'] at hloc; exact hloc.elim
    | obj r =>
      cases hl' : e'.loc with
      | obj r' =>
        rw [hl, hl'] at hloc
        refine .inr (.inl ⟨r', hl', ?_, by rw [h.wr]; exact hloc.2⟩)
        rcases hfresh hloc.1 with hR | hg
        · rcases hc _ _ hR with ⟨hro, hS⟩ | ⟨hM, _⟩
          · exact .inr (.inr hro)
          · exact .inl (.inl hM)
        · exact .inl hg
      | _ => rw [hl, hl'] at hloc; exact hloc.elim
    | mark m =>
      cases hl' : e'.loc with
      | mark m' =>
        rw [hl, hl'] at hloc
        obtain ⟨rfl, rfl | ⟨f, rfl⟩⟩ := hloc
        · exact .inr (.inr (.inl hl'))
        · exact .inr (.inr (.inr ⟨f, hl'⟩))
      | _ => rw [hl, hl'] at hloc; exact hloc.elim
    | output => rw [hl] at hloc; cases hl' : e'.loc <;> (rw [hl'] at hloc; exact hloc.elim)
    | goroutines => rw [hl] at hloc; cases hl' : e'.loc <;> (rw [hl'] at hloc; exact hloc.elim)

theorem class_of_step {z : Zone} {M : Nat → Prop} {R R1 : BR} {S : Nat → Nat → Prop} {s : LS} {w1 w1' wl1 : World} {tp : Tape} {d : Nat} (hc : Class z M R S s.w) (hsl : ∀ a i, S a i → a < s.w.heap.size) (hw : WR X.vw X.P.globals.size X.G R1 S wl1 w1')
    (he : Eff (ByteTy X.P) S R R1 (re s.w tp d) w1 wl1 w1') : Class z (grow M w1 w1') R1 S (nrm wl1) := by
  intro a b hab
  rcases he.new a b hab with hR | ⟨h1, h2⟩
  · rcases hc a b hR with h | ⟨hM, hS⟩
    · exact .inl h
    · exact .inr ⟨.inl hM, hS⟩
  · exact .inr ⟨.inr ⟨h2, (hw.lt hab).2⟩, fun j hS => by have := hsl a j hS; exact absurd h1 (by show ¬ s.w.heap.size ≤ a; omega)⟩

/-- ████ A LONE CONTRACT IN COMPANY. ████ -/
theorem cow_of_ev (G : Good X P fs fz vs) (hvw : X.vw = fun _ => False) (hfz : X.fz = false) {z : Zone} {S : Nat → Nat → Prop} {Stop : LS → Prop} (hfs : ∀ s, Stop s → s.fs = []) {Q : (Nat → Prop) → Frame → World → Prop}
    {R0 : BR} (hQ : ∀ R M s fr' w', BR.Sub R0 R → Stop s → WR X.vw X.P.globals.size X.G R S s.w w' → FrameR X P fs fz vs R s.fr fr' → Class z M R S s.w → Q M fr' w') {s : LS} (hE : Ev (LStep X.P) Stop s) :
    ∀ {R : BR} {M : Nat → Prop} {fr' : Frame} {fs' : List Frame} {w' : World}, BR.Sub R0 R → WR X.vw X.P.globals.size X.G R S s.w w' → StkR X P fs fz vs R (s.fr, s.fs) (fr', fs') → Class z M R S s.w →
      (∀ b, (z.ro b → ¬ M b ∧ ¬ z.Y b) ∧ (z.Y b → ¬ M b)) → (∀ b, z.ro b ∨ z.Y b → b < w'.heap.size) → CoW X.P z Q M fr' fs' w' := by
  induction hE with
  | @stop s hs =>
    intro R M fr' fs' w' h0 hw hk hc hd hl
    have hfs : fs' = [] := by
      have := hk.2
      rw [show (s.fr, s.fs).2 = [] from hfs _ hs] at this
      cases this; rfl
    subst hfs
    exact .done fun w1 hr => hQ R M s fr' w1 h0 hs (hc.rely hw hr) hk.1 hc
  | @step s h1 h2 ih =>
    intro R M fr' fs' w' h0 hw hk hc hd hl
    refine .step hk.1.p' (fun w1 hr => ?_) fun w1 p w2 es hr hrun => ?_
    · obtain ⟨⟨s1, k⟩, hx⟩ := h1 w1.tape w1.drawn
      obtain ⟨R1, p', wl1, w1', es0, es', e1, e2, e3, e4, e5, e6⟩ := sim_step G hvw hfz (hc.rely hw hr) hk hx
      exact ⟨p', w1', es', e1, guar_of_step hc e4 hd e5 e6⟩
    · obtain ⟨⟨s1, k⟩, hx⟩ := h1 w1.tape w1.drawn
      have hw1 := hc.rely hw hr
      obtain ⟨R1, p', wl1, w1', es0, es', e1, e2, e3, e4, e5, e6⟩ := sim_step G hvw hfz hw1 hk hx
      rw [hrun] at e1
      cases e1
      have hc1 := class_of_step (X := X) hc hw.sl e4 e5
      rw [← e3] at hc1
      refine ih _ _ _ _ hx (R := R1) (M := grow M w1 w2) (h0.trans e5.sub) (by rw [e3]; have := re_WR e4 T0 w2.tape 0 w2.drawn; rwa [re_self] at this) e2 hc1 (fun b => ⟨fun hb => ?_, fun hb => ?_⟩) fun b hb => ?_
      · refine ⟨fun hg => ?_, ((hd b).1 hb).2⟩
        rcases hg with hM | ⟨hge, _⟩
        · exact ((hd b).1 hb).1 hM
        · have := hl b (.inl hb); have := hr.size; omega
      · intro hg
        rcases hg with hM | ⟨hge, _⟩
        · exact (hd b).2 hb hM
        · have := hl b (.inr hb); have := hr.size; omega
      · have := hl b hb; have := hr.size; have := e5.sz'; omega
end

end Go.Proofs.Ytcgjppacnhmjlaa.Sim
end
