/- Own texts: FjA, FjT, FjU. -/
import Derived.Test.YtcgjppacnhmjlaaFmAF
import Derived.Conc.CrowdTrace
import Derived.Conc.WrSpec

section
set_option linter.unusedVariables false
set_option linter.unusedSimpArgs false
set_option linter.unusedSectionVars false
/-! Workers: their own steps in company, whatever the others do meanwhile. -/
namespace Go.Proofs.Ytcgjppacnhmjlaa.Sim
open Go Go.Conc
set_option linter.unusedVariables false

/-- How far it is, whatever the worlds on the way. -/
inductive Rk where
  | leaf
  | mk (f : World → Rk)
inductive Rk.Lt : Rk → Rk → Prop
  | of (f : World → Rk) (w : World) : Rk.Lt (f w) (.mk f)
theorem Rk.acc : ∀ r : Rk, Acc Rk.Lt r
  | .leaf => ⟨_, fun y h => by cases h⟩
  | .mk f => ⟨_, fun y h => by cases h with | of _ w => exact Rk.acc (f w)⟩

/-- What is in the way of a worker: what it reads alone, the two blocks in which cell number i is its own. -/
structure WZ where
  T : Nat
  E : Nat
  i : Nat
  part : Nat → Prop
def WZ.all (z : WZ) (b : Nat) : Prop := b = z.T ∨ b = z.E ∨ z.part b

def PayX (B i : Nat) (w w1 : World) : Prop := ∀ c e f, w.heap[B]? = some (.cells c e f) → ∃ c1, w1.heap[B]? = some (.cells c1 e f) ∧ c1.size = c.size ∧ c1[i]? = c[i]?
def PayY (B i : Nat) (w w1 : World) : Prop := ∀ c e f, w.heap[B]? = some (.cells c e f) → ∃ c1, w1.heap[B]? = some (.cells c1 e f) ∧ c1.size = c.size ∧ ∀ j, j ≠ i → c1[j]? = c[j]?
/-- What the others may do. -/
structure Ry (z : WZ) (M : Nat → Prop) (w w1 : World) : Prop where
  size : w.heap.size ≤ w1.heap.size
  part : ∀ b, z.part b → SameC w w1 b
  own : ∀ b, M b → w1.heap[b]? = w.heap[b]?
  payT : PayX z.T z.i w w1
  payE : PayX z.E z.i w w1
/-- What it lists. -/
def EvWk (z : WZ) (M : Nat → Prop) (e : Event) : Prop :=
  (∃ a, e.loc = .cell a ∧ (M a.block ∨ ((a.block = z.T ∨ a.block = z.E) ∧ a.off = z.i) ∨ (z.part a.block ∧ e.write = false))) ∨ (∃ r, e.loc = .obj r ∧ (M r ∨ z.part r) ∧ e.write = false) ∨ e.loc = .mark .noRoom ∨ ∃ f, e.loc = .mark (.extern f)
/-- What it does. -/
structure Gu (z : WZ) (M : Nat → Prop) (w w1 : World) (es : Array Event) : Prop where
  size : w.heap.size ≤ w1.heap.size
  out : ∀ b, b < w.heap.size → ¬ M b → b ≠ z.T → b ≠ z.E → ¬ z.part b → w1.heap[b]? = w.heap[b]?
  part : ∀ b, z.part b → SameC w w1 b
  payT : PayY z.T z.i w w1
  payE : PayY z.E z.i w w1
  tape : w1.tape = w.tape
  os : w1.os = w.os
  output : w1.output = w.output
  ev : ∀ e ∈ es, EvWk z (grow M w w1) e

theorem SameC.trans {w w1 w2 : World} {b : Nat} (h : SameC w w1 b) (h' : SameC w1 w2 b) : SameC w w2 b := by
  intro c e f hc
  obtain ⟨f1, h1⟩ := h c e f hc
  exact h' c e f1 h1
theorem SameC.of_eq {w w1 : World} {b : Nat} (h : w1.heap[b]? = w.heap[b]?) : SameC w w1 b := fun c e f hc => ⟨f, by rw [h]; exact hc⟩
theorem PayX.trans {B i : Nat} {w w1 w2 : World} (h : PayX B i w w1) (h' : PayX B i w1 w2) : PayX B i w w2 := by
  intro c e f hc
  obtain ⟨c1, h1, h2, h3⟩ := h c e f hc
  obtain ⟨c2, h4, h5, h6⟩ := h' c1 e f h1
  exact ⟨c2, h4, h5.trans h2, h6.trans h3⟩
theorem PayX.of_eq {B i : Nat} {w w1 : World} (h : w1.heap[B]? = w.heap[B]?) : PayX B i w w1 := fun c e f hc => ⟨c, by rw [h]; exact hc, rfl, rfl⟩
theorem PayY.of_eq {B i : Nat} {w w1 : World} (h : w1.heap[B]? = w.heap[B]?) : PayY B i w w1 := fun c e f hc => ⟨c, by rw [h]; exact hc, rfl, fun _ _ => rfl⟩
theorem Ry.refl (z : WZ) (M : Nat → Prop) (w : World) : Ry z M w w := ⟨Nat.le_refl _, fun _ _ => .of_eq rfl, fun _ _ => rfl, .of_eq rfl, .of_eq rfl⟩
theorem Ry.trans {z : WZ} {M : Nat → Prop} {w w1 w2 : World} (h : Ry z M w w1) (h' : Ry z M w1 w2) : Ry z M w w2 :=
  ⟨Nat.le_trans h.size h'.size, fun b hb => (h.part b hb).trans (h'.part b hb), fun b hb => (h'.own b hb).trans (h.own b hb), h.payT.trans h'.payT, h.payE.trans h'.payE⟩
theorem Ry.at (z : WZ) (M : Nat → Prop) (w : World) (d : Nat) : Ry z M w (w.at d) := ⟨Nat.le_refl _, fun _ _ => .of_eq rfl, fun _ _ => rfl, .of_eq rfl, .of_eq rfl⟩

/-- A worker's own steps till it stands so; so far. -/
def CoGr (P : Program) (z : WZ) (Q : (Nat → Prop) → Goroutine → World → Prop) : Rk → (Nat → Prop) → Goroutine → World → Prop
  | .leaf, M, g, w => ∀ w1, Ry z M w w1 → Q M g w1
  | .mk f, M, g, w => (∀ w1, Ry z M w w1 → Q M g w1) ∨ (g.status = .running ∧ ∀ w1, Ry z M w w1 → ∃ g' w' es, stepG P false g w1 = .go g' w' es ∧ Gu z M w1 w' es ∧ CoGr P z Q (f w1) (grow M w1 w') g' w')
def CoG (P : Program) (z : WZ) (Q : (Nat → Prop) → Goroutine → World → Prop) (M : Nat → Prop) (g : Goroutine) (w : World) : Prop := ∃ r, CoGr P z Q r M g w

section
variable {P : Program} {z : WZ} {Q : (Nat → Prop) → Goroutine → World → Prop} {M : Nat → Prop} {g : Goroutine} {w w1 : World}

theorem CoGr.rely : ∀ {r : Rk} , CoGr P z Q r M g w → Ry z M w w1 → CoGr P z Q r M g w1
  | .leaf, h, hr => fun w2 h2 => h w2 (hr.trans h2)
  | .mk f, h, hr => h.imp (fun h w2 h2 => h w2 (hr.trans h2)) fun h => ⟨h.1, fun w2 h2 => h.2 w2 (hr.trans h2)⟩
theorem CoG.rely (h : CoG P z Q M g w) (hr : Ry z M w w1) : CoG P z Q M g w1 := let ⟨r, h⟩ := h; ⟨r, h.rely hr⟩
theorem CoG.done (h : ∀ w1, Ry z M w w1 → Q M g w1) : CoG P z Q M g w := ⟨.leaf, h⟩
open Classical in
theorem CoG.step (hs : g.status = .running) (h : ∀ w1, Ry z M w w1 → ∃ g' w' es, stepG P false g w1 = .go g' w' es ∧ Gu z M w1 w' es ∧ CoG P z Q (grow M w1 w') g' w') : CoG P z Q M g w := by
  have : ∀ w1, ∃ r, Ry z M w w1 → ∃ g' w' es, stepG P false g w1 = .go g' w' es ∧ Gu z M w1 w' es ∧ CoGr P z Q r (grow M w1 w') g' w' := by
    intro w1
    by_cases hr : Ry z M w w1
    · obtain ⟨g', w', es, h1, h2, r, h3⟩ := h w1 hr
      exact ⟨r, fun _ => ⟨g', w', es, h1, h2, h3⟩⟩
    · exact ⟨.leaf, fun x => absurd x hr⟩
  refine ⟨.mk fun w1 => Classical.choose (this w1), .inr ⟨hs, fun w1 hr => ?_⟩⟩
  exact Classical.choose_spec (this w1) hr

theorem grow_self (M : Nat → Prop) (w : World) : ∀ b, grow M w w b ↔ M b := fun b => ⟨fun h => h.elim id fun x => absurd x.2 (by omega), .inl⟩
theorem CoGr.congr {M' : Nat → Prop} (hM : M = M') {r : Rk} (h : CoGr P z Q r M g w) : CoGr P z Q r M' g w := hM ▸ h
theorem CoG.congr {M' : Nat → Prop} (hM : ∀ b, M b ↔ M' b) (h : CoG P z Q M g w) : CoG P z Q M' g w := by
  have : M = M' := funext fun b => propext (hM b)
  exact this ▸ h
/-- A step that does nothing to the world, whatever it is. -/
theorem Gu.idle (w : World) : Gu z M w w #[] := ⟨Nat.le_refl _, fun _ _ _ _ _ _ => rfl, fun _ _ => .of_eq rfl, .of_eq rfl, .of_eq rfl, rfl, rfl, rfl, fun e he => by simp at he⟩
theorem CoG.ctl {g' : Goroutine} (hs : g.status = .running) (h : ∀ w, stepG P false g w = .go g' w #[]) (hn : CoG P z Q M g' w) : CoG P z Q M g w :=
  .step hs fun w1 hr => ⟨g', w1, #[], h w1, .idle w1, (hn.rely hr).congr fun b => (grow_self M w1 b).symm⟩
/-- A step that looks at the world and does nothing to it. -/
theorem CoG.look {g' : Goroutine} (hs : g.status = .running) (h : ∀ w1, Ry z M w w1 → ∃ es, stepG P false g w1 = .go g' w1 es ∧ ∀ e ∈ es, EvWk z M e) (hn : CoG P z Q M g' w) : CoG P z Q M g w :=
  .step hs fun w1 hr => by
    obtain ⟨es, h1, h2⟩ := h w1 hr
    have e : grow M w1 w1 = M := funext fun b => propext (grow_self M w1 b)
    exact ⟨g', w1, es, h1, ⟨Nat.le_refl _, fun _ _ _ _ _ _ => rfl, fun _ _ => .of_eq rfl, .of_eq rfl, .of_eq rfl, rfl, rfl, rfl, by rw [e]; exact h2⟩, (hn.rely hr).congr fun b => (grow_self M w1 b).symm⟩

/-- ████ A LONE CONTRACT AS A PART OF IT. ████ -/
theorem cog_of_cow (hTE : ¬ z.part z.T ∧ ¬ z.part z.E) {Qw : (Nat → Prop) → Frame → World → Prop} {fr : Frame} {fs tl : List Frame} (h : CoW P { ro := z.part, Y := fun _ => False, i := 0 } Qw M fr fs w) :
    (∀ b, M b → ¬ z.all b) → (∀ b, z.all b → b < w.heap.size) → (∀ M' fr' w', (∀ b, M' b → ¬ z.all b) → (∀ b, z.all b → b < w'.heap.size) → (∀ b, M b → M' b) → Ry z (fun _ => False) w w' → (∀ w1, Ry z M' w' w1 → Qw M' fr' w1) → CoG P z Q M' (gor fr' tl) w') → CoG P z Q M (gor fr (fs ++ tl)) w := by
  induction h with
  | @done M fr w hd =>
    intro hM hl hk
    rw [List.nil_append]
    exact hk M fr w hM hl (fun _ => id) (Ry.refl _ _ _) fun w1 hr => hd w1 ⟨hr.size, hr.part, hr.own, fun b hb => hb.elim⟩
  | @step M fr fs w hp h1 h2 ih =>
    intro hM hl hk
    refine .step rfl fun w1 hr => ?_
    have hR : Rely { ro := z.part, Y := fun _ => False, i := 0 } M w w1 := ⟨hr.size, hr.part, hr.own, fun b hb => hb.elim⟩
    obtain ⟨p, w', es, e1, e2⟩ := h1 w1 hR
    have hM1 : ∀ b, grow M w1 w' b → ¬ z.all b := by
      intro b hb ha
      rcases hb with hb | ⟨hb, _⟩
      · exact hM b hb ha
      · have := hl b ha; have := hr.size; omega
    have hsame : ∀ b, z.all b → ¬ z.part b → w'.heap[b]? = w1.heap[b]? := fun b ha hn => e2.out b (by have := hl b ha; have := hr.size; omega) (fun h => hM b h ha) hn fun x => x
    have pay : ∀ B, z.all B → ¬ z.part B → PayY B z.i w1 w' := fun B hB hn => .of_eq (hsame B hB hn)
    refine ⟨gor p.1 (p.2 ++ tl), w', seen P fr.fn es, step_ok (fr1 := p.1) (fs1 := p.2) hp tl (by rw [e1]), ⟨e2.size, fun b hb hnM hT hE hpt => e2.out b hb hnM hpt fun x => x, e2.ro, pay z.T (.inl rfl) hTE.1, pay z.E (.inr (.inl rfl)) hTE.2, e2.tape, e2.os, e2.output, fun e he => ?_⟩, ?_⟩
    · rcases e2.ev e (seen_mem he) with ⟨a, ha, h | ⟨h, _⟩ | ⟨h, hw⟩⟩ | ⟨r, hr', h | h | h, hw⟩ | h | h
      · exact .inl ⟨a, ha, .inl h⟩
      · exact h.elim
      · exact .inl ⟨a, ha, .inr (.inr ⟨h, hw⟩)⟩
      · exact .inr (.inl ⟨r, hr', .inl h, hw⟩)
      · exact h.elim
      · exact .inr (.inl ⟨r, hr', .inr h, hw⟩)
      · exact .inr (.inr (.inl h))
      · exact .inr (.inr (.inr h))
    · refine ih w1 p w' es hR e1 hM1 (fun b hb => by have := hl b hb; have := hr.size; have := e2.size; omega) fun M' fr' w2 a1 a2 a3 a4 a5 => ?_
      exact hk M' fr' w2 a1 a2 (fun b hb => a3 b (.inl hb)) ((⟨hr.size, hr.part, fun b hb => hb.elim, hr.payT, hr.payE⟩ : Ry z (fun _ => False) w w1).trans ((⟨e2.size, e2.ro, fun b hb => hb.elim, .of_eq (hsame z.T (.inl rfl) hTE.1), .of_eq (hsame z.E (.inr (.inl rfl)) hTE.2)⟩ : Ry z (fun _ => False) w1 w').trans a4)) a5
end

end Go.Proofs.Ytcgjppacnhmjlaa.Sim
end

section
set_option linter.unusedVariables false
set_option linter.unusedSimpArgs false
set_option linter.unusedSectionVars false
/-! The trace while workers are on their way, and behind the join. -/
namespace Go.Proofs.Ytcgjppacnhmjlaa.Sim
open Go Go.Conc Go.ConcN
set_option linter.unusedVariables false

theorem touch_low {B : Nat} {a : MemAct} {x : Touch} (h : a.low B) (hx : a.touch? = some x) : x.loc.low B := by
  cases a with
  | access e => simp only [MemAct.touch?, Option.some.injEq] at hx; subst hx; exact h
  | mark m => cases m <;> simp only [MemAct.touch?, Option.some.injEq] at hx <;> first | (cases hx; done) | (subst hx; exact h)
  | _ => cases hx
theorem untouched {B : Nat} {t : Trace} (h : ∀ op ∈ t, op.act.low B) {l : Loc} (hl : ¬ l.low B) : ∀ i a, touchAt t i = some a → a.loc ≠ l := by
  intro i a ha e
  obtain ⟨op, hop, hx⟩ := touch_of ha
  exact hl (e ▸ touch_low (h op (Array.mem_of_getElem? hop)) hx)

section
variable {Sh : Loc → Prop} {Own Own' Rd Rd' : Nat → Loc → Prop} {t : Trace} {j : Nat}

/-- What is somebody's grows by what nobody has touched. -/
theorem ct_change (h : CT Sh Own Rd t j) (hO : ∀ k, 1 ≤ k → k ≤ j → ∀ l, Own k l → Own' k l) (hn : ∀ k, 1 ≤ k → k ≤ j → ∀ l, Own' k l → ¬ Own k l → ∀ i a, touchAt t i = some a → a.loc ≠ l) (hR : ∀ k, 1 ≤ k → k ≤ j → ∀ l, Rd' k l ↔ Rd k l) : CT Sh Own' Rd' t j := by
  refine ⟨h.quiet, fun k k1 kj l hl => ?_, fun k k1 kj l hl => h.rd k k1 kj l ((hR k k1 kj l).1 hl), fun l hs hl => h.free l hs fun k k1 kj => ⟨fun x => (hl k k1 kj).1 (hO k k1 kj l x), fun x => (hl k k1 kj).2 ((hR k k1 kj l).2 x)⟩, fun l hs hl => h.mine l hs fun k k1 kj x => hl k k1 kj (hO k k1 kj l x), h.nr, h.gs⟩
  by_cases ho : Own k l
  · exact h.own k k1 kj l ho
  · exact fun i a ha e => absurd e (hn k k1 kj l hl ho i a ha)

/-- Goroutine 0 beside leavers, a new group's block at hand. -/
theorem ct_begin {O : Nat → Prop} {B N Wg : Nat} (h : PQ O B N t) (hN : N = j + 1) (hW : B ≤ Wg) (hO : ∀ k, 1 ≤ k → k ≤ j → ∀ l, ¬ Own k l) (hR : ∀ k, 1 ≤ k → k ≤ j → ∀ l, ¬ Rd k l) : CT (ShM fun b => O b ∨ b = Wg) Own Rd t j := by
  have known : ∀ l, ¬ ShM (fun b => O b ∨ b = Wg) l → Perm t 0 l := by
    intro l hs i a ha e
    have hm : a.loc.isMemory = true := by
      cases hm : a.loc.isMemory with
      | true => rfl
      | false => exact absurd (.inr (e ▸ hm)) hs
    rcases h.past.known i a ha hm with hk | ⟨⟨x, hx, hO⟩, _⟩
    · exact hk
    · exact absurd (.inl ⟨x, by rw [← e]; exact hx, .inl hO⟩) hs
  refine ⟨fun i op x hi hx hs => ?_, fun k k1 kj l hl => absurd hl (hO k k1 kj l), fun k k1 kj l hl => absurd hl (hR k k1 kj l), fun l hs _ => known l hs, fun l hs _ => PermW.of (known l hs), h.past.clean, fun i op hi => ?_⟩
  · rcases hs with ⟨a, ha, hO | hWg⟩ | hs
    · exact h.quiet i op x hi hx (.inl ⟨a, ha, hO⟩)
    · have := touch_low (h.past.seen op (Array.mem_of_getElem? hi)) hx
      rw [ha] at this
      have : a.block < B := this
      omega
    · exact h.quiet i op x hi hx (.inr hs)
  · have := h.gs op (Array.mem_of_getElem? hi); omega
end


/-- Worker x has said its release-and-merge at r; what it touches behind that is the group's state alone, atomically. -/
structure Said (O : Nat → Prop) (a : Addr) (t : Trace) (x r : Nat) : Prop where
  rel : RelBy a t x r
  late : ∀ i b, r < i → t.g? i = some x → touchAt t i = some b → b.loc.isMemory = true → ShunO O b.loc ∧ b.kind = .atomic
/-- What is known of those that were there before. -/
structure Olds (O : Nat → Prop) (m : Nat) (t : Trace) : Prop where
  known : ∀ i a g, touchAt t i = some a → a.loc.isMemory = true → t.g? i = some g → g < m → Knows t 0 i ∨ (ShunO O a.loc ∧ a.kind = .atomic)
  over : ∀ i g, t.g? i = some g → g ≠ 0 → g < m → t.counts i → ∃ j, t.g? j = some 0 ∧ HappensBefore t i j

/-- ████ BEHIND THE JOIN. ████ -/
theorem pq_join {Own Rd : Nat → Loc → Prop} {O : Nat → Prop} {B m J q : Nat} {a : Addr} {t : Trace} (hct : CT (ShM O) Own Rd t J) (hold : Olds O m t) (hsaid : ∀ x, m ≤ x → x ≤ J → ∃ r, Said O a t x r ∧ r < q) (hn : ∀ op ∈ t, ∀ a, op.act ≠ .mark (.release a))
    (hq : t.act? q = some (.mark (.acquire a))) (hg : t.g? q = some 0) (hh : t.heard q) (hd : Deaf t 0 = 0) (hl : ∀ op ∈ t, op.act.low B) : PQ O B (J + 1) t := by
  have hn' : NoRelease a t := by
    intro i e
    unfold Trace.act? at e
    obtain ⟨op, hop, he⟩ := Option.map_eq_some_iff.1 e
    exact hn op (Array.mem_of_getElem? hop) a he
  have edge : ∀ {x r i : Nat}, RelBy a t x r → r < q → t.g? i = some x → i ≤ r → HappensBefore t i q := by
    intro x r i hr hrq hgi hle
    have e : HappensBefore t r q := .single (.inr ⟨.marked hrq (.inr hr.act) hq (fun k _ _ => hn' k), hr.heard, hh⟩)
    rcases Nat.lt_or_ge i r with hlt | hge
    · exact .trans (.single (.inl ⟨hlt, x, hgi, hr.g⟩)) e
    · obtain rfl : i = r := by omega
      exact e
  have hz : ∃ z, t[q]? = some z ∧ z.g = 0 := by
    unfold Trace.g? at hg
    obtain ⟨z, hz, h0⟩ := Option.map_eq_some_iff.1 hg
    exact ⟨z, hz, h0⟩
  obtain ⟨z, hz, hz0⟩ := hz
  have gOf : ∀ {i b}, touchAt t i = some b → ∃ g, t.g? i = some g ∧ g ≤ J := by
    intro i b hb
    obtain ⟨op, hop, _⟩ := touch_of hb
    exact ⟨op.g, by simp [Trace.g?, hop], hct.gs i op hop⟩
  refine ⟨⟨hct.nr, fun i b hb hm => ?_, fun i g hgi hne hc => ?_, hd, hl⟩, hct.quiet, fun op hop => ?_, hn⟩
  · obtain ⟨g, hgi, hgJ⟩ := gOf hb
    rcases Nat.lt_or_ge g m with hlt | hge
    · exact hold.known i b g hb hm hgi hlt
    · obtain ⟨r, hs, hrq⟩ := hsaid g hge hgJ
      rcases Nat.lt_or_ge r i with hri | hir
      · exact .inr (hs.late i b hri hgi hb hm)
      · exact .inl ⟨q, z, hz, hz0, .inr (edge hs.rel hrq hgi hir)⟩
  · rcases Nat.lt_or_ge g m with hlt | hge
    · exact hold.over i g hgi hne hlt hc
    · have hgJ : g ≤ J := by
        unfold Trace.g? at hgi
        obtain ⟨op, hop, rfl⟩ := Option.map_eq_some_iff.1 hgi
        exact hct.gs i op hop
      obtain ⟨r, hs, hrq⟩ := hsaid g hge hgJ
      have hle : i ≤ r := Nat.le_of_not_lt fun hlt => hs.rel.after i hlt hgi hc
      exact ⟨q, hg, edge hs.rel hrq hgi hle⟩
  · obtain ⟨i, hi, rfl⟩ := Array.mem_iff_getElem.1 hop
    have := hct.gs i _ (Array.getElem?_eq_getElem hi)
    omega

end Go.Proofs.Ytcgjppacnhmjlaa.Sim
end

section
set_option linter.unusedVariables false
set_option linter.unusedSimpArgs false
set_option linter.unusedSectionVars false
/-! The trace grows. -/
namespace Go.Proofs.Ytcgjppacnhmjlaa.Sim
open Go Go.Conc Go.ConcN
set_option linter.unusedVariables false

section
variable {O : Nat → Prop} {m : Nat} {a : Addr} {t u : Trace} {x r : Nat}

theorem g_append {i g : Nat} (h : (t ++ u).g? i = some g) : (i < t.size ∧ t.g? i = some g) ∨ (t.size ≤ i ∧ ∃ op ∈ u, (t ++ u)[i]? = some op ∧ op.g = g) := by
  unfold Trace.g? at h
  obtain ⟨op, hop, rfl⟩ := Option.map_eq_some_iff.1 h
  rcases getElem?_append_cases hop with ⟨hi, hop'⟩ | ⟨hi, hopu⟩
  · exact .inl ⟨hi, by simp [Trace.g?, hop']⟩
  · refine .inr ⟨?_, op, hopu, hop, rfl⟩
    exact hi

/-- What is known of the elders stays. -/
theorem Olds.app (h : Olds O m t) (hu : ∀ op ∈ u, op.g = 0 ∨ m ≤ op.g ∨ op.act.touch? = none) : Olds O m (t ++ u) := by
  refine ⟨fun i b g hb hm hg hlt => ?_, fun i g hg hne hlt hc => ?_⟩
  · rcases g_append hg with ⟨hi, hg'⟩ | ⟨hi, op, hop, ho, rfl⟩
    · rw [touchAt_old hi] at hb
      exact (h.known i b g hb hm hg' hlt).imp (·.app u) id
    · have hx : op.act.touch? = some b := by rw [← touchAt_of ho]; exact hb
      rcases hu op hop with h0 | h0 | h0
      · have := knows_own ho
        rw [h0] at this
        exact .inl this
      · omega
      · rw [h0] at hx; cases hx
  · rcases g_append hg with ⟨hi, hg'⟩ | ⟨hi, op, hop, ho, rfl⟩
    · obtain ⟨j, hj, hb⟩ := h.over i g hg' hne hlt ((counts_old hi).1 hc)
      have hjl : j < t.size := by
        unfold Trace.g? at hj
        obtain ⟨z, hz, _⟩ := Option.map_eq_some_iff.1 hj
        exact lt_size_of_getElem? hz
      exact ⟨j, by simpa [Trace.g?, getElem?_append_old hjl] using hj, hb_app u hb⟩
    · rcases hu op hop with h0 | h0 | h0
      · exact absurd h0 hne
      · omega
      · obtain ⟨x, hx, _⟩ := hc
        have : (t ++ u).act? i = some op.act := by simp [Trace.act?, ho]
        rw [this] at hx
        simp [h0] at hx
theorem Said.other (h : Said O a t x r) (hu : ∀ op ∈ u, op.g ≠ x ∨ op.act.touch? = none) : Said O a (t ++ u) x r := by
  have hr : r < t.size := lt_of_act? h.rel.act
  refine ⟨h.rel.app fun i hi hg hc => ?_, fun i b hri hg hb hm => ?_⟩
  · rcases g_append hg with ⟨hi', _⟩ | ⟨_, op, hop, ho, hox⟩
    · omega
    · rcases hu op hop with h0 | h0
      · exact h0 hox
      · obtain ⟨y, hy, _⟩ := hc
        have : (t ++ u).act? i = some op.act := by simp [Trace.act?, ho]
        rw [this] at hy
        simp [h0] at hy
  · rcases g_append hg with ⟨hi', hg'⟩ | ⟨_, op, hop, ho, hox⟩
    · rw [touchAt_old hi'] at hb
      exact h.late i b hri hg' hb hm
    · rcases hu op hop with h0 | h0
      · exact absurd hox h0
      · rw [touchAt_of ho, h0] at hb; cases hb

/-- Whoever is deaf stays so while it says neither. -/
theorem deaf_new {fn : FuncId} {pos : String} {es : Array Event} (hes : ∀ e ∈ es, e.loc ≠ .mark .disable ∧ e.loc ≠ .mark .enable) (hd : Deaf t x ≠ 0) {i : Nat} (hi : t.size ≤ i) (hh : (t ++ MemOp.ofEvents x fn pos es).heard i) : False := by
  obtain ⟨g, hg, h0⟩ := hh
  rcases g_append hg with ⟨hi', _⟩ | ⟨_, op, hop, ho, rfl⟩
  · omega
  · rw [ops_g hop] at h0
    have key : ∀ k, t.size + k ≤ (t ++ MemOp.ofEvents x fn pos es).size → (t ++ MemOp.ofEvents x fn pos es).deaf x (t.size + k) = Deaf t x := by
      intro k
      induction k with
      | zero => intro _; rw [Nat.add_zero, deaf_old (Nat.le_refl _)]; rfl
      | succ k ih =>
        intro hk
        have hlt : t.size + k < (t ++ MemOp.ofEvents x fn pos es).size := by omega
        have hy := Array.getElem?_eq_getElem hlt
        rw [show t.size + (k + 1) = (t.size + k) + 1 by omega, deaf_succ hy, ih (by omega)]
        rcases getElem?_append_cases hy with ⟨hi', _⟩ | ⟨_, hyu⟩
        · omega
        · obtain ⟨e, he, hy'⟩ := ops_mem hyu
          rw [hy']
          have := hes e he
          obtain ⟨loc, wr, sy⟩ := e
          unfold deafStep
          cases loc with
          | mark mm => cases mm <;> first | rfl | exact absurd rfl this.1 | exact absurd rfl this.2
          | obj rr => cases wr <;> cases sy <;> rfl
          | _ => rfl
    have hle : i ≤ (t ++ MemOp.ofEvents x fn pos es).size := Nat.le_of_lt (lt_size_of_getElem? ho)
    have := key (i - t.size) (by omega)
    rw [show t.size + (i - t.size) = i by omega] at this
    rw [this] at h0
    exact hd h0

/-- Atomic touches of what is shunned, taken deaf. -/
theorem Said.deaf (h : Said O a t x r) (hd : Deaf t x ≠ 0) {fn : FuncId} {pos : String} {es : Array Event} (hes : ∀ e ∈ es, (e.loc ≠ .mark .disable ∧ e.loc ≠ .mark .enable) ∧ ∀ b, (MemAct.ofEvent e).touch? = some b → ShunO O b.loc ∧ b.kind = .atomic) : Said O a (t ++ MemOp.ofEvents x fn pos es) x r := by
  refine ⟨h.rel.app fun i hi hg hc => ?_, fun i b hri hg hb hm => ?_⟩
  · rcases g_append hg with ⟨hi', _⟩ | ⟨_, op, hop, ho, hox⟩
    · omega
    · obtain ⟨e, he, rfl⟩ := ops_mem hop
      obtain ⟨y, hy, _, hk⟩ := hc
      have : (t ++ MemOp.ofEvents x fn pos es).act? i = some (MemAct.ofEvent e) := by simp [Trace.act?, ho]
      rw [this] at hy
      have hat := ((hes e he).2 y (by simpa using hy)).2
      rcases hk with hk | hk
      · exact hk hat
      · exact deaf_new (fun e he => (hes e he).1) hd hi hk
  · rcases g_append hg with ⟨hi', hg'⟩ | ⟨_, op, hop, ho, hox⟩
    · rw [touchAt_old hi'] at hb
      exact h.late i b hri hg' hb hm
    · obtain ⟨e, he, rfl⟩ := ops_mem hop
      rw [touchAt_of ho] at hb
      exact (hes e he).2 b hb
end

end Go.Proofs.Ytcgjppacnhmjlaa.Sim
end
