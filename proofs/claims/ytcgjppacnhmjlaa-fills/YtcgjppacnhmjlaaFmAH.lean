/- Own texts: FjB, FjC, FjD. -/
import Derived.Test.YtcgjppacnhmjlaaFmAG
import Derived.Conc.CrowdSpec

section
set_option linter.unusedVariables false
set_option linter.unusedSimpArgs false
set_option linter.unusedSectionVars false
/-! Workers and elders beside goroutine 0: where each stands. -/
namespace Go.Proofs.Ytcgjppacnhmjlaa.Sim
open Go Go.Conc Go.ConcN
open Go.ConcR (KK wgBlock WgAt stA smA rd wr mk Payload DC0)
set_option linter.unusedVariables false
set_option linter.unusedSectionVars false
variable [Payload]

/-- A fork and its join: the group's block, the two blocks that the workers fill, how many cells they have, the first worker's number, what is shunned (the group's block is), what worker x leaves. -/
structure FC where
  P : Program
  ty : TypeId
  Wg : Nat
  T : Nat
  E : Nat
  n : Nat
  m : Nat
  O : Nat → Prop
  Res : Nat → Value → (Nat → Prop) → World → Prop
/-- What is held of one goroutine: its own blocks, what it reads, where it stands, how far it is, how deaf, what it leaves. -/
structure Gh where
  M : Nat → Prop
  ro : Nat → Prop
  stage : Nat
  rk : Rk
  d : Nat
  val : Value
def Rk.nat : Nat → Rk
  | 0 => .leaf
  | n + 1 => .mk fun _ => Rk.nat n
theorem Rk.nat_lt (n : Nat) : Rk.Lt (Rk.nat n) (Rk.nat (n + 1)) := .of (fun _ => Rk.nat n) default

def FC.z (C : FC) (x : Nat) (h : Gh) : WZ := { T := C.T, E := C.E, i := x - C.m, part := h.ro }
abbrev FC.RWx (C : FC) (x : Nat) : World → World → Prop := RW C.ty C.Wg C.T C.n 0 (x - C.m)
abbrev FC.pre (C : FC) (x : Nat) (v : Value) (k : Nat) (g : Goroutine) (w : World) : Prop :=
  Goes C.P false (C.RWx x) DC0 (AtR0 C.P C.ty C.Wg C.T C.n 0 (x - C.m + 1) v) k g w
/-- The blocks that everybody knows. -/
structure FC.Wf (C : FC) (w : World) : Prop where
  T : ∃ c, w.heap[C.T]? = some (.cells c Payload.ety) ∧ c.size = C.n
  E : ∃ c e f, w.heap[C.E]? = some (.cells c e f) ∧ c.size = C.n ∧ f = (0, 0)
  TE : C.T ≠ C.E ∧ C.T ≠ C.Wg ∧ C.E ≠ C.Wg
  wg : WgLive C.ty C.Wg w

/-- Where a worker that has worked stands. -/
def FC.pr (C : FC) (x : Nat) : (Nat → Prop) → Goroutine → World → Prop := fun M g w => g.status = .running ∧ (C.Wf w → ∃ v k, C.pre x v k g w ∧ C.Res x v M w)

def OthW (C : FC) (w : World) (x : Nat) (h : Gh) (g : Goroutine) : Prop :=
  match h.stage with
  | 0 => ∃ q, h.rk = Rk.nat q ∧ QuitsD C.P q h.d g
  | 8 => CoGr C.P (C.z x h) (C.pr x) h.rk h.M g w ∧ h.d = 0
  | 7 => ∃ k, h.rk = Rk.nat k ∧ C.pre x h.val k g w ∧ h.d = 0
  | 6 => ∃ k, h.rk = Rk.nat k ∧ Goes C.P false (C.RWx x) DC0 (AtK1 C.P C.ty C.Wg C.T C.n 0 (x - C.m + 1)) k g w ∧ h.d = 0
  | 5 => ∃ k, h.rk = Rk.nat k ∧ Goes C.P false (C.RWx x) DC0 (AtD1 C.P C.ty C.Wg C.T C.n 0 (x - C.m + 1)) k g w ∧ h.d = 1
  | 4 => ∃ k, h.rk = Rk.nat k ∧ Goes C.P false (C.RWx x) DC0 (AtD2 C.P C.ty C.Wg C.T C.n 0 (x - C.m + 1)) k g w ∧ h.d = 1
  | 3 => ∃ k, h.rk = Rk.nat k ∧ Goes C.P false (C.RWx x) DC0 (AtD3 C.P C.ty C.Wg C.T C.n 0 (x - C.m + 1)) k g w ∧ h.d = 1
  | 2 => ∃ k, h.rk = Rk.nat k ∧ Goes C.P false (C.RWx x) DC0 (AtD4 C.P C.ty C.Wg) k g w ∧ h.d = 1
  | _ => False
/-- What it has left. -/
def OthR (C : FC) (w : World) (x : Nat) (h : Gh) : Prop := (x < C.m → h.stage = 0 ∧ (∀ b, ¬ h.M b) ∧ ∀ b, ¬ h.ro b) ∧ (C.m ≤ x → h.stage ≤ 7 → C.Res x h.val h.M w ∧ (h.stage ≤ 6 → Has C.T (x - C.m) h.val w))
/-- What the trace says of it. -/
def OthT (C : FC) (t : Trace) (x : Nat) (h : Gh) : Prop := Deaf t x = h.d ∧ (C.m ≤ x → h.stage ≤ 6 → ∃ r, Said C.O (stA C.Wg) t x r)

/-- What a step of x's does to the world. -/
structure Ch (C : FC) (h : Gh) (x : Nat) (w w' : World) : Prop where
  size : w.heap.size ≤ w'.heap.size
  out : ∀ b, b < w.heap.size → ¬ h.M b → b ≠ C.T → b ≠ C.E → b ≠ C.Wg → ¬ h.ro b → w'.heap[b]? = w.heap[b]?
  ro : ∀ b, h.ro b → SameC w w' b
  payT : PayY C.T (x - C.m) w w'
  payE : PayY C.E (x - C.m) w w'
  live : WgLive C.ty C.Wg w → WgLive C.ty C.Wg w'

section
variable {C : FC} {w w' : World} {x y : Nat} {h hy : Gh} {g : Goroutine}

theorem cell_of_block {w : World} {b i : Nat} {c : Array Value} {e : TypeId} {f : Nat × Nat} (h : w.heap[b]? = some (.cells c e f)) : w.cell? ⟨b, i, none⟩ = c[i]? := by simp [World.cell?, h]
theorem PayY.cell {B i j : Nat} (hp : PayY B i w w') {c : Array Value} {e : TypeId} {f : Nat × Nat} (hc : w.heap[B]? = some (.cells c e f)) (hj : j ≠ i) : w'.cell? ⟨B, j, none⟩ = w.cell? ⟨B, j, none⟩ := by
  obtain ⟨c1, h1, h2, h3⟩ := hp c e f hc
  rw [cell_of_block h1, cell_of_block hc]
  exact h3 j hj
theorem PayY.payX {B i j : Nat} (hp : PayY B i w w') (hj : j ≠ i) : PayX B j w w' := by
  intro c e f hc
  obtain ⟨c1, h1, h2, h3⟩ := hp c e f hc
  exact ⟨c1, h1, h2, h3 j hj⟩

/-- Others suffer it. -/
theorem Ch.ry (hc : Ch C h x w w') (hne : y - C.m ≠ x - C.m) (hsz : ∀ b, hy.M b → b < w.heap.size) (hM : ∀ b, hy.M b → ¬ h.M b ∧ b ≠ C.T ∧ b ≠ C.E ∧ b ≠ C.Wg ∧ ¬ h.ro b) (hro : ∀ b, hy.ro b → ¬ h.M b ∧ b ≠ C.T ∧ b ≠ C.E ∧ b ≠ C.Wg) : Ry (C.z y hy) hy.M w w' := by
  refine ⟨hc.size, fun b hb => ?_, fun b hb => ?_, hc.payT.payX hne, hc.payE.payX hne⟩
  · by_cases hr : h.ro b
    · exact hc.ro b hr
    · obtain ⟨h1, h2, h3, h4⟩ := hro b hb
      intro c e f hcc
      exact ⟨f, by rw [hc.out b (Array.getElem?_eq_some_iff.1 hcc).1 h1 h2 h3 h4 hr]; exact hcc⟩
  · obtain ⟨h1, h2, h3, h4, h5⟩ := hM b hb
    exact hc.out b (hsz b hb) h1 h2 h3 h4 h5
theorem Ch.rw' (hc : Ch C h x w w') (hf : C.Wf w) (hne : y - C.m ≠ x - C.m) : C.RWx y w w' := by
  refine ⟨fun b hb => by omega, hc.live, fun ⟨c, h1, h2⟩ => ?_, ?_⟩
  · obtain ⟨c1, h3, h4, _⟩ := hc.payT c _ _ h1
    exact ⟨c1, h3, h4.trans h2⟩
  · obtain ⟨c, h1, _⟩ := hf.T
    exact hc.payT.cell h1 hne
theorem RW.trans' {ty : TypeId} {Wg C n i : Nat} {w w1 w2 : World} (h : RW ty Wg C n 0 i w w1) (h' : RW ty Wg C n 0 i w1 w2) : RW ty Wg C n 0 i w w2 := ⟨fun b hb => by omega, h'.live ∘ h.live, h'.pay ∘ h.pay, h'.cell.trans h.cell⟩

theorem othW_rely (ho : OthW C w y hy g) (hr : Ry (C.z y hy) hy.M w w') (hw : C.RWx y w w') : OthW C w' y hy g := by
  have tr : ∀ a b c, C.RWx y a b → C.RWx y b c → C.RWx y a c := fun _ _ _ => RW.trans'
  unfold OthW at ho ⊢
  split at ho
  · exact ho
  · exact ⟨ho.1.rely hr, ho.2⟩
  · obtain ⟨k, h1, h2, h3⟩ := ho; exact ⟨k, h1, Goes.rely tr h2 hw, h3⟩
  · obtain ⟨k, h1, h2, h3⟩ := ho; exact ⟨k, h1, Goes.rely tr h2 hw, h3⟩
  · obtain ⟨k, h1, h2, h3⟩ := ho; exact ⟨k, h1, Goes.rely tr h2 hw, h3⟩
  · obtain ⟨k, h1, h2, h3⟩ := ho; exact ⟨k, h1, Goes.rely tr h2 hw, h3⟩
  · obtain ⟨k, h1, h2, h3⟩ := ho; exact ⟨k, h1, Goes.rely tr h2 hw, h3⟩
  · obtain ⟨k, h1, h2, h3⟩ := ho; exact ⟨k, h1, Goes.rely tr h2 hw, h3⟩
  · exact ho
end

end Go.Proofs.Ytcgjppacnhmjlaa.Sim
end

section
set_option linter.unusedVariables false
set_option linter.unusedSimpArgs false
set_option linter.unusedSectionVars false
/-! The machine in which workers are on their way: what is held of it; a step of another's. -/
namespace Go.Proofs.Ytcgjppacnhmjlaa.Sim
open Go Go.Conc Go.ConcN
open Go.ConcR (KK wgBlock WgAt stA smA rd wr mk Payload DC0)
set_option linter.unusedVariables false
set_option linter.unusedSectionVars false
variable [Payload]

def OwnF (C : FC) (gh : Nat → Gh) (x : Nat) (l : Loc) : Prop :=
  (∃ a, l = .cell a ∧ ((gh x).M a.block ∨ (C.m ≤ x ∧ (a.block = C.T ∨ a.block = C.E) ∧ a.off = x - C.m))) ∨ ∃ r, l = .obj r ∧ (gh x).M r
def RdF (gh : Nat → Gh) (x : Nat) (l : Loc) : Prop := (∃ a, l = .cell a ∧ (gh x).ro a.block) ∨ ∃ r, l = .obj r ∧ (gh x).ro r

structure Inv (C : FC) (L : Nat → Prop) (J : Nat) (gh : Nat → Gh) (gs : Array Goroutine) (w : World) (t : Trace) : Prop where
  sz : gs.size = J + 1
  mJ : 1 ≤ C.m ∧ C.m ≤ J + 1
  hw : ∀ x, 1 ≤ x → x ≤ J → ∃ g, gs[x]? = some g ∧ OthW C w x (gh x) g
  hr : ∀ x, 1 ≤ x → x ≤ J → OthR C w x (gh x)
  ht : ∀ x, 1 ≤ x → x ≤ J → OthT C t x (gh x)
  nx : ∀ x, (x = 0 ∨ J < x) → (∀ b, ¬ (gh x).M b) ∧ ∀ b, ¬ (gh x).ro b
  ct : CT (ShM C.O) (OwnF C gh) (RdF gh) t J
  olds : Olds C.O C.m t
  low : ∀ op ∈ t, op.act.low w.heap.size
  nrel : ∀ op ∈ t, ∀ a, op.act ≠ .mark (.release a)
  hM : ∀ x b, (gh x).M b → b < w.heap.size ∧ ¬ L b ∧ b ≠ C.T ∧ b ≠ C.E ∧ ¬ C.O b
  hMM : ∀ x y b, (gh x).M b → (gh y).M b → x = y
  hro : ∀ x b, (gh x).ro b → L b
  hL : ∀ b, L b → b < w.heap.size ∧ b ≠ C.T ∧ b ≠ C.E ∧ ¬ C.O b
  hO : C.O C.Wg ∧ ¬ C.O C.T ∧ ¬ C.O C.E
  hOl : ∀ b, C.O b → b < w.heap.size
  wf : C.Wf w
/-- What is left stays while nobody touches it. -/
def FC.Stable (C : FC) : Prop := ∀ x v M w w', (∀ b, M b → w'.heap[b]? = w.heap[b]?) → w'.cell? ⟨C.E, x - C.m, none⟩ = w.cell? ⟨C.E, x - C.m, none⟩ → C.Res x v M w → C.Res x v M w'

def setG (gh : Nat → Gh) (x : Nat) (h : Gh) : Nat → Gh := fun y => if y = x then h else gh y
theorem setG_same (gh : Nat → Gh) (x : Nat) (h : Gh) : setG gh x h x = h := if_pos rfl
theorem setG_ne {gh : Nat → Gh} {x y : Nat} {h : Gh} (hy : y ≠ x) : setG gh x h y = gh y := if_neg hy

section
variable {C : FC} {L : Nat → Prop} {J : Nat} {gh : Nat → Gh} {gs : Array Goroutine} {w w' : World} {t : Trace}

theorem apart_of (hM : ∀ x b, (gh x).M b → ¬ L b ∧ b ≠ C.T ∧ b ≠ C.E ∧ ¬ C.O b) (hMM : ∀ x y b, (gh x).M b → (gh y).M b → x = y) (hro : ∀ x b, (gh x).ro b → L b) (hL : ∀ b, L b → b ≠ C.T ∧ b ≠ C.E ∧ ¬ C.O b) (hO : ¬ C.O C.T ∧ ¬ C.O C.E) : Apart (ShM C.O) (OwnF C gh) (RdF gh) := by
  refine ⟨fun k k' l h h' => ?_, fun k k' l h h' => ?_, fun k l h h' => ?_, fun k l h h' => ?_⟩
  · rcases h with ⟨a, rfl, h⟩ | ⟨r, rfl, h⟩
    · rcases h' with ⟨a', e, h'⟩ | ⟨r', e, _⟩
      · cases e
        rcases h with h | ⟨h1, h2, h3⟩
        · rcases h' with h' | ⟨h1', h2', h3'⟩
          · exact hMM _ _ _ h h'
          · exact absurd h2' (fun x => x.elim (hM _ _ h).2.1 (hM _ _ h).2.2.1)
        · rcases h' with h' | ⟨h1', h2', h3'⟩
          · exact absurd h2 (fun x => x.elim (hM _ _ h').2.1 (hM _ _ h').2.2.1)
          · omega
      · cases e
    · rcases h' with ⟨a', e, _⟩ | ⟨r', e, h'⟩
      · cases e
      · cases e; exact hMM _ _ _ h h'
  · rcases h with ⟨a, rfl, h⟩ | ⟨r, rfl, h⟩
    · rcases h' with ⟨a', e, h'⟩ | ⟨r', e, _⟩
      · cases e
        have := hro _ _ h'
        rcases h with h | ⟨_, h2, _⟩
        · exact (hM _ _ h).1 this
        · exact h2.elim (hL _ this).1 (hL _ this).2.1
      · cases e
    · rcases h' with ⟨a', e, _⟩ | ⟨r', e, h'⟩
      · cases e
      · cases e; exact (hM _ _ h).1 (hro _ _ h')
  · rcases h with ⟨a, rfl, h⟩ | ⟨r, rfl, h⟩
    · rcases h' with ⟨a', e, h'⟩ | h'
      · cases e
        rcases h with h | ⟨_, h2, _⟩
        · exact (hM _ _ h).2.2.2 h'
        · rcases h2 with h2 | h2 <;> rw [h2] at h'
          · exact hO.1 h'
          · exact hO.2 h'
      · cases h'
    · rcases h' with ⟨a', e, _⟩ | h'
      · cases e
      · cases h'
  · rcases h with ⟨a, rfl, h⟩ | ⟨r, rfl, h⟩
    · rcases h' with ⟨a', e, h'⟩ | h'
      · cases e; exact (hL _ (hro _ _ h)).2.2 h'
      · cases h'
    · rcases h' with ⟨a', e, _⟩ | h'
      · cases e
      · cases h'
theorem Inv.apart (h : Inv C L J gh gs w t) : Apart (ShM C.O) (OwnF C gh) (RdF gh) :=
  apart_of (fun x b hb => (h.hM x b hb).2) h.hMM h.hro (fun b hb => (h.hL b hb).2) h.hO.2

theorem goes_status {P : Program} {R : World → World → Prop} {D : World → World → Array Event → Prop} {Stop : Goroutine → World → Prop} {n : Nat} {g : Goroutine} {w : World} (hr : R w w) (hs : ∀ g w, Stop g w → g.status = .running) (h : Goes P false R D Stop n g w) : g.status = .running := by
  cases n with
  | zero => exact hs _ _ (h w hr)
  | succ n => exact h.elim (fun x => hs _ _ (x w hr)) (·.1)
theorem RW.refl' (ty : TypeId) (Wg T n i : Nat) (w : World) : RW ty Wg T n 0 i w w := ⟨fun _ _ _ _ => rfl, id, id, rfl⟩
theorem othW_status {x : Nat} {h : Gh} {g : Goroutine} (ho : OthW C w x h g) : g.status = .running ∨ g.status = .finished := by
  unfold OthW at ho
  split at ho
  · obtain ⟨q, _, hq⟩ := ho; exact hq.status
  · left
    obtain ⟨hc, _⟩ := ho
    have hpr : C.pr x h.M g w → g.status = .running := fun h1 => h1.1
    cases hk : h.rk with
    | leaf => rw [hk] at hc; exact hpr (hc w (Ry.refl _ _ _))
    | mk f => rw [hk] at hc; exact hc.elim (fun x => hpr (x w (Ry.refl _ _ _))) (·.1)
  · obtain ⟨k, _, h1, _⟩ := ho; exact .inl (goes_status (RW.refl' ..) (fun _ _ x => x.1) h1)
  · obtain ⟨k, _, h1, _⟩ := ho; exact .inl (goes_status (RW.refl' ..) (fun _ _ x => x.1) h1)
  · obtain ⟨k, _, h1, _⟩ := ho; exact .inl (goes_status (RW.refl' ..) (fun _ _ x => x.1) h1)
  · obtain ⟨k, _, h1, _⟩ := ho; exact .inl (goes_status (RW.refl' ..) (fun _ _ x => x.1) h1)
  · obtain ⟨k, _, h1, _⟩ := ho; exact .inl (goes_status (RW.refl' ..) (fun _ _ x => x.1) h1)
  · obtain ⟨k, _, h1, _⟩ := ho; exact .inl (goes_status (RW.refl' ..) (fun _ _ x => x.1) h1)
  · exact ho.elim
theorem woken_oth {P : Program} {x : Nat} {h : Gh} {g a a' : Goroutine} (ho : OthW C w x h g) : woken P a a' w' g = g := by
  unfold Go.Conc.woken
  split
  · exact again_running _ (othW_status ho)
  · rfl

theorem Ch.wf {x : Nat} {h : Gh} (hc : Ch C h x w w') (hf : C.Wf w) : C.Wf w' := by
  obtain ⟨c, h1, h2⟩ := hf.T
  obtain ⟨c1, h3, h4, _⟩ := hc.payT c _ _ h1
  obtain ⟨d, e, f, h5, h6⟩ := hf.E
  obtain ⟨d1, h7, h8, _⟩ := hc.payE d e f h5
  exact ⟨⟨c1, h3, h4.trans h2⟩, ⟨d1, e, f, h7, h8.trans h6.1, h6.2⟩, hf.TE, hc.live hf.wg⟩

/-- ████ A STEP OF ANOTHER'S. ████ -/
theorem inv_oth (hS : C.Stable) (I : Inv C L J gh gs w t) {x : Nat} {g g' : Goroutine} {es : Array Event} {h' : Gh} (hx1 : 1 ≤ x) (hxJ : x ≤ J) (hg : gs[x]? = some g) (hm : C.m ≤ x ∨ (w' = w ∧ ∀ e ∈ es, (MemAct.ofEvent e).touch? = none))
    (hc : Ch C (gh x) x w w') (hM' : h'.M = grow (gh x).M w w') (hro' : h'.ro = (gh x).ro)
    (hev : ∀ e ∈ es, (∀ y, (MemAct.ofEvent e).touch? = some y → (ShM C.O y.loc ∧ y.kind ≠ .plain ∧ y.kind ≠ .said) ∨ OwnF C (setG gh x h') x y.loc ∨ (RdF (setG gh x h') x y.loc ∧ y.write = false)) ∧ (MemAct.ofEvent e).low w'.heap.size ∧ ∀ a, e.loc ≠ .mark (.release a))
    (ho : OthW C w' x h' g') (hr : OthR C w' x h') (ht : OthT C (t ++ MemOp.ofEvents x g.frame.fn g.frame.place es) x h') :
    Inv C L J (setG gh x h') ((gs.map (woken C.P g g' w')).setIfInBounds x g') w' (t ++ MemOp.ofEvents x g.frame.fn g.frame.place es) := by
  have hlt : x < gs.size := by rw [I.sz]; omega
  have hTlt : C.T < w.heap.size := by obtain ⟨c, h1, _⟩ := I.wf.T; exact (Array.getElem?_eq_some_iff.1 h1).1
  have hElt : C.E < w.heap.size := by obtain ⟨c, e, f, h1, _⟩ := I.wf.E; exact (Array.getElem?_eq_some_iff.1 h1).1
  have nM : ∀ y b, (setG gh x h' y).M b → (gh y).M b ∨ (y = x ∧ w.heap.size ≤ b ∧ b < w'.heap.size) := by
    intro y b hb
    by_cases e : y = x
    · subst e
      rw [setG_same, hM'] at hb
      exact hb.imp id fun h => ⟨rfl, h⟩
    · rw [setG_ne e] at hb; exact .inl hb
  have nro : ∀ y, (setG gh x h' y).ro = (gh y).ro := by
    intro y
    by_cases e : y = x
    · subst e; rw [setG_same, hro']
    · rw [setG_ne e]
  have hMn : ∀ y b, (setG gh x h' y).M b → b < w'.heap.size ∧ ¬ L b ∧ b ≠ C.T ∧ b ≠ C.E ∧ ¬ C.O b := by
    intro y b hb
    have := hc.size
    rcases nM y b hb with h | ⟨_, h1, h2⟩
    · obtain ⟨a1, a2⟩ := I.hM y b h; exact ⟨by omega, a2⟩
    · exact ⟨h2, fun hl => by have := (I.hL b hl).1; omega, by omega, by omega, fun hO => by have := I.hOl b hO; omega⟩
  have hMMn : ∀ y z b, (setG gh x h' y).M b → (setG gh x h' z).M b → y = z := by
    intro y z b hy hz
    rcases nM y b hy with h1 | ⟨rfl, h1, _⟩ <;> rcases nM z b hz with h2 | ⟨rfl, h2, _⟩
    · exact I.hMM y z b h1 h2
    · have := (I.hM y b h1).1; omega
    · have := (I.hM z b h2).1; omega
    · rfl
  have hap : Apart (ShM C.O) (OwnF C (setG gh x h')) (RdF (setG gh x h')) :=
    apart_of (L := L) (fun y b hb => (hMn y b hb).2) hMMn (fun y b hb => I.hro y b (by rw [← nro y]; exact hb)) (fun b hb => (I.hL b hb).2) I.hO.2
  have hRd : ∀ k l, RdF (setG gh x h') k l ↔ RdF gh k l := fun k l => by unfold RdF; rw [nro k]
  have sub : ∀ y, y ≠ x → Ry (C.z y (gh y)) (gh y).M w w' ∧ ((C.m ≤ y → C.RWx y w w') ∧ (C.m ≤ y → w'.cell? ⟨C.T, y - C.m, none⟩ = w.cell? ⟨C.T, y - C.m, none⟩ ∧ w'.cell? ⟨C.E, y - C.m, none⟩ = w.cell? ⟨C.E, y - C.m, none⟩)) ∨ y < C.m := by
    intro y hy
    rcases Nat.lt_or_ge y C.m with hym | hym
    · exact .inr hym
    · left
      rcases hm with hxm | ⟨rfl, _⟩
      · have hne : y - C.m ≠ x - C.m := by omega
        obtain ⟨c, h1, _⟩ := I.wf.T
        obtain ⟨d, e, f, h2, _⟩ := I.wf.E
        exact ⟨hc.ry hne (fun b hb => (I.hM y b hb).1) (fun b hb => ⟨fun h => hy (I.hMM y x b hb h), (I.hM y b hb).2.2.1, (I.hM y b hb).2.2.2.1, fun e => (I.hM y b hb).2.2.2.2 (e ▸ I.hO.1), fun h => (I.hM y b hb).2.1 (I.hro x b h)⟩)
          (fun b hb => ⟨fun h => (I.hM x b h).2.1 (I.hro y b hb), (I.hL b (I.hro y b hb)).2.1, (I.hL b (I.hro y b hb)).2.2.1, fun e => (I.hL b (I.hro y b hb)).2.2.2 (e ▸ I.hO.1)⟩), fun _ => hc.rw' I.wf hne, fun _ => ⟨hc.payT.cell h1 hne, hc.payE.cell h2 hne⟩⟩
      · exact ⟨Ry.refl _ _ _, fun _ => RW.refl' .., fun _ => ⟨rfl, rfl⟩⟩
  refine ⟨by simp [I.sz], I.mJ, fun y y1 yJ => ?_, fun y y1 yJ => ?_, fun y y1 yJ => ?_, fun y hy => ?_, ?_, I.olds.app fun op hop => ?_, fun op hop => ?_, fun op hop a => ?_, hMn, hMMn, fun y b hb => I.hro y b (by rw [← nro y]; exact hb), fun b hb => ⟨by have := (I.hL b hb).1; have := hc.size; omega, (I.hL b hb).2⟩, I.hO, fun b hb => by have := I.hOl b hb; have := hc.size; omega, hc.wf I.wf⟩
  · by_cases e : y = x
    · subst e
      exact ⟨g', by rw [Array.getElem?_setIfInBounds_self_of_lt (by simpa using hlt)], by rw [setG_same]; exact ho⟩
    · obtain ⟨gy, h1, h2⟩ := I.hw y y1 yJ
      refine ⟨gy, by rw [Array.getElem?_setIfInBounds_ne (Ne.symm e), Array.getElem?_map, h1]; simp [woken_oth h2], ?_⟩
      rw [setG_ne e]
      rcases sub y e with ⟨a1, a2, _⟩ | hym
      · rcases Nat.lt_or_ge y C.m with hym | hym
        · have h0 := ((I.hr y y1 yJ).1 hym).1
          unfold OthW at h2 ⊢
          rw [h0] at h2 ⊢
          exact h2
        · exact othW_rely h2 a1 (a2 hym)
      · have h0 := ((I.hr y y1 yJ).1 hym).1
        unfold OthW at h2 ⊢
        rw [h0] at h2 ⊢
        exact h2
  · by_cases e : y = x
    · subst e; rw [setG_same]; exact hr
    · rw [setG_ne e]
      have h1 := I.hr y y1 yJ
      refine ⟨h1.1, fun hym hst => ?_⟩
      rcases sub y e with ⟨a1, a2, a3⟩ | hlt'
      · obtain ⟨b1, b2⟩ := h1.2 hym hst
        refine ⟨hS y _ _ w w' (fun b hb => a1.own b hb) (a3 hym).2 b1, fun h6 => ?_⟩
        exact (a3 hym).1.trans (b2 h6)
      · omega
  · by_cases e : y = x
    · subst e; rw [setG_same]; exact ht
    · rw [setG_ne e]
      obtain ⟨h1, h2⟩ := I.ht y y1 yJ
      refine ⟨by rw [Deaf_other t (g' := x) (Ne.symm e) _ (fun op hop => ops_g hop)]; exact h1, fun hym hst => ?_⟩
      obtain ⟨r, hs⟩ := h2 hym hst
      exact ⟨r, hs.other fun op hop => .inl (by rw [ops_g hop]; exact fun z => e z.symm)⟩
  · have e : y ≠ x := by omega
    rw [setG_ne e]
    exact I.nx y hy
  · refine CT.appW hap (ct_change I.ct (fun k k1 kj l hl => ?_) (fun k k1 kj l hl hno => ?_) fun k k1 kj l => hRd k l) hx1 hxJ fun op hop => ?_
    · rcases hl with ⟨a, rfl, h⟩ | ⟨r, rfl, h⟩
      · refine .inl ⟨a, rfl, h.imp (fun h => ?_) id⟩
        by_cases e : k = x
        · subst e; rw [setG_same, hM']; exact .inl h
        · rw [setG_ne e]; exact h
      · refine .inr ⟨r, rfl, ?_⟩
        by_cases e : k = x
        · subst e; rw [setG_same, hM']; exact .inl h
        · rw [setG_ne e]; exact h
    · refine untouched I.low ?_
      rcases hl with ⟨a, rfl, h⟩ | ⟨r, rfl, h⟩
      · intro hlow
        have hlow : a.block < w.heap.size := hlow
        rcases h with h | h
        · rcases nM k _ h with h | ⟨_, h, _⟩
          · exact hno (.inl ⟨a, rfl, .inl h⟩)
          · omega
        · exact hno (.inl ⟨a, rfl, .inr h⟩)
      · intro hlow
        have hlow : r < w.heap.size := hlow
        rcases nM k _ h with h | ⟨_, h, _⟩
        · exact hno (.inr ⟨r, rfl, h⟩)
        · omega
    · obtain ⟨e, he, rfl⟩ := ops_mem hop
      exact ⟨rfl, (hev e he).1⟩
  · obtain ⟨e, he, rfl⟩ := ops_mem hop
    rcases hm with hm | ⟨_, hm⟩
    · exact .inr (.inl hm)
    · exact .inr (.inr (hm e he))
  · rcases Array.mem_append.1 hop with h | h
    · exact MemAct.low_mono hc.size (I.low op h)
    · obtain ⟨e, he, rfl⟩ := ops_mem h; exact (hev e he).2.1
  · rcases Array.mem_append.1 hop with h | h
    · exact I.nrel op h a
    · obtain ⟨e, he, rfl⟩ := ops_mem h; exact ofEvent_rel (hev e he).2.2
end

end Go.Proofs.Ytcgjppacnhmjlaa.Sim
end

section
set_option linter.unusedVariables false
set_option linter.unusedSimpArgs false
set_option linter.unusedSectionVars false
/-! A step of another's, by where it stands. -/
namespace Go.Proofs.Ytcgjppacnhmjlaa.Sim
open Go Go.Conc Go.ConcN
open Go.ConcR (KK wgBlock WgAt stA smA rd wr mk Payload DC0)
set_option linter.unusedVariables false
set_option linter.unusedSectionVars false
variable [Payload]

/-- What others may have done to the world, for one who knows of these blocks. -/
structure Rl (S L : Nat → Prop) (w w' : World) : Prop where
  size : w.heap.size ≤ w'.heap.size
  same : ∀ b, L b → SameC w w' b
  exact : ∀ b, L b → ¬ S b → w'.heap[b]? = w.heap[b]?
  os : w'.os = w.os
  output : w'.output = w.output
theorem Rl.refl (S L : Nat → Prop) (w : World) : Rl S L w w := ⟨Nat.le_refl _, fun _ _ => .of_eq rfl, fun _ _ _ => rfl, rfl, rfl⟩
theorem Rl.trans {S L : Nat → Prop} {w w1 w2 : World} (h : Rl S L w w1) (h' : Rl S L w1 w2) : Rl S L w w2 := ⟨Nat.le_trans h.size h'.size, fun b hb => (h.same b hb).trans (h'.same b hb), fun b hb hs => (h'.exact b hb hs).trans (h.exact b hb hs), h'.os.trans h.os, h'.output.trans h.output⟩
theorem Rl.at (S L : Nat → Prop) (w : World) (d : Nat) : Rl S L w (w.at d) := ⟨Nat.le_refl _, fun _ _ => .of_eq rfl, fun _ _ _ => rfl, rfl, rfl⟩
theorem Rl.mono {S S' L : Nat → Prop} {w w' : World} (h : Rl S L w w') (hS : ∀ b, S b → S' b) : Rl S' L w w' := ⟨h.size, h.same, fun b hb hs => h.exact b hb fun x => hs (hS b x), h.os, h.output⟩
def MLt (a b : Gh) : Prop := a.stage < b.stage ∨ (a.stage = b.stage ∧ Rk.Lt a.rk b.rk)

section
variable {C : FC} {L : Nat → Prop} {J : Nat} {gh : Nat → Gh} {gs : Array Goroutine} {w w' : World} {t : Trace}

theorem Ch.idle (C : FC) (h : Gh) (x : Nat) (w : World) : Ch C h x w w := ⟨Nat.le_refl _, fun _ _ _ _ _ _ _ => rfl, fun _ _ => .of_eq rfl, .of_eq rfl, .of_eq rfl, id⟩
theorem grow_idle (M : Nat → Prop) (w : World) : M = grow M w w := funext fun b => propext (grow_self M w b).symm

/-- It stays where it is but for how far it is: nothing is done to the world, nothing listed. -/
theorem inv_still (hS : C.Stable) (I : Inv C L J gh gs w t) {x : Nat} {g g' : Goroutine} {h' : Gh} (hx1 : 1 ≤ x) (hxJ : x ≤ J) (hxm : C.m ≤ x) (hg : gs[x]? = some g) (hM' : h'.M = (gh x).M) (hro' : h'.ro = (gh x).ro) (hst : h'.stage = (gh x).stage) (hd : h'.d = (gh x).d) (hv : h'.val = (gh x).val) (ho : OthW C w x h' g') :
    Inv C L J (setG gh x h') ((gs.map (woken C.P g g' w)).setIfInBounds x g') w (t ++ MemOp.ofEvents x g.frame.fn g.frame.place #[]) := by
  refine inv_oth hS I hx1 hxJ hg (.inl hxm) (Ch.idle C _ x w) (hM'.trans (grow_idle _ w)) hro' (fun e he => by simp at he) ho ?_ ?_
  · have := I.hr x hx1 hxJ
    unfold OthR at this ⊢
    rw [hM', hro', hst, hv]
    exact this
  · have hT := I.ht x hx1 hxJ
    refine ⟨by rw [Deaf_own, hd]; exact hT.1, fun a b => ?_⟩
    obtain ⟨r, hs⟩ := hT.2 a (by rw [← hst]; exact b)
    exact ⟨r, hs.other fun op hop => by obtain ⟨e, he, _⟩ := ops_mem hop; simp at he⟩

/-- A segment's own step. -/
theorem seg_step {P : Program} {R : World → World → Prop} {Stop : Goroutine → World → Prop} {k : Nat} {g : Goroutine} {w : World} (hr : R w w) (h : Goes P false R DC0 Stop k g w) : Stop g w ∨ ∃ k' g', k = k' + 1 ∧ stepG P false g w = .go g' w #[] ∧ Goes P false R DC0 Stop k' g' w := by
  cases k with
  | zero => exact .inl (h w hr)
  | succ k =>
    rcases h with h | ⟨_, h⟩
    · exact .inl (h w hr)
    · have := h w hr
      cases hs : stepG P false g w with
      | go g' w' es =>
        rw [hs, goes_go] at this
        obtain ⟨⟨rfl, rfl⟩, h2⟩ := this
        exact .inr ⟨k, g', rfl, rfl, h2⟩
      | _ => rw [hs] at this; exact this.elim

/-- What comes of a step of x's that is no step on the group's cells. -/
def Next (C : FC) (L : Nat → Prop) (J : Nat) (gh : Nat → Gh) (gs : Array Goroutine) (w : World) (t : Trace) (x : Nat) (g : Goroutine) : Prop :=
  ∃ g' w' es h', stepG C.P false g w = .go g' w' es ∧ Inv C L J (setG gh x h') ((gs.map (woken C.P g g' w')).setIfInBounds x g') w' (t ++ MemOp.ofEvents x g.frame.fn g.frame.place es) ∧ MLt h' (gh x) ∧ w'.heap[C.Wg]? = w.heap[C.Wg]? ∧ Rl (gh x).ro L w w' ∧ (5 ≤ h'.stage ↔ 5 ≤ (gh x).stage) ∧ ((gh x).stage ≤ 4 → h'.stage = (gh x).stage) ∧ h'.ro = (gh x).ro

theorem next_seg (hS : C.Stable) (I : Inv C L J gh gs w t) {x : Nat} {g : Goroutine} (hx1 : 1 ≤ x) (hxJ : x ≤ J) (hxm : C.m ≤ x) (hg : gs[x]? = some g) {Stop : Goroutine → World → Prop} {k : Nat} (hk : (gh x).rk = Rk.nat k) (hG : Goes C.P false (C.RWx x) DC0 Stop k g w)
    (hO : ∀ k' g', Goes C.P false (C.RWx x) DC0 Stop k' g' w → OthW C w x { gh x with rk := Rk.nat k' } g') : Stop g w ∨ Next C L J gh gs w t x g := by
  rcases seg_step (RW.refl' ..) hG with h | ⟨k', g', rfl, h1, h2⟩
  · exact .inl h
  · refine .inr ⟨g', w, #[], { gh x with rk := Rk.nat k' }, h1, inv_still hS I hx1 hxJ hxm hg rfl rfl rfl rfl rfl (hO k' g' h2), .inr ⟨rfl, ?_⟩, rfl, .refl _ L w, Iff.rfl, fun _ => rfl, rfl⟩
    rw [hk]; exact Rk.nat_lt k'

theorem mute_facts {e : Event} (h : e.mute = true) : (MemAct.ofEvent e).touch? = none ∧ (∀ B, (MemAct.ofEvent e).low B) ∧ ∀ a, e.loc ≠ .mark (.release a) := by
  refine ⟨touch_mute h, low_mute h, fun a x => ?_⟩
  obtain ⟨loc, wr, sy⟩ := e
  dsimp only at x
  subst x
  cases h

/-- A leaver. -/
theorem next_leave (hS : C.Stable) (I : Inv C L J gh gs w t) {x : Nat} {g : Goroutine} (hx1 : 1 ≤ x) (hxJ : x ≤ J) (hg : gs[x]? = some g) (hrun : g.status = .running) (hst : (gh x).stage = 0) (ho : OthW C w x (gh x) g) : Next C L J gh gs w t x g := by
  unfold OthW at ho
  rw [hst] at ho
  obtain ⟨q, hk, hq⟩ := ho
  cases q with
  | zero => rw [hq.1] at hrun; cases hrun
  | succ q =>
    rcases hq with ⟨hf, _⟩ | ⟨_, g', es, hm, hstp, hq'⟩
    · rw [hf] at hrun; cases hrun
    refine ⟨g', w, es, { gh x with rk := Rk.nat q, d := deafBehind (gh x).d es }, hstp w, ?_, .inr ⟨rfl, by rw [hk]; exact Rk.nat_lt q⟩, rfl, .refl _ L w, Iff.rfl, fun _ => rfl, rfl⟩
    refine inv_oth hS I hx1 hxJ hg (.inr ⟨rfl, fun e he => (mute_facts (hm e he)).1⟩) (Ch.idle C _ x w) (grow_idle _ w) rfl (fun e he => ⟨fun y hy => by (rw [(mute_facts (hm e he)).1] at hy; cases hy), (mute_facts (hm e he)).2.1 _, (mute_facts (hm e he)).2.2⟩) ?_ (I.hr x hx1 hxJ) ?_
    · unfold OthW
      show match (gh x).stage with | 0 => _ | 8 => _ | 7 => _ | 6 => _ | 5 => _ | 4 => _ | 3 => _ | 2 => _ | _ => _
      rw [hst]
      exact ⟨q, rfl, hq'⟩
    · obtain ⟨h1, h2⟩ := I.ht x hx1 hxJ
      refine ⟨by rw [Deaf_own, h1], fun a b => ?_⟩
      obtain ⟨r, hs⟩ := h2 a b
      exact ⟨r, hs.other fun op hop => .inr (by obtain ⟨e, he, rfl⟩ := ops_mem hop; exact (mute_facts (hm e he)).1)⟩

/-- The release. -/
theorem next_rel (hS : C.Stable) (I : Inv C L J gh gs w t) {x : Nat} {g : Goroutine} (hx1 : 1 ≤ x) (hxJ : x ≤ J) (hxm : C.m ≤ x) (hg : gs[x]? = some g) (hst : (gh x).stage = 7) (hd : (gh x).d = 0) (hR : AtR0 C.P C.ty C.Wg C.T C.n 0 (x - C.m + 1) (gh x).val g w) : Next C L J gh gs w t x g := by
  obtain ⟨hrun, hhas, g', hstp, k, hG⟩ := hR
  have hWlt : C.Wg < w.heap.size := I.hOl _ I.hO.1
  have hT := I.ht x hx1 hxJ
  have hRs := I.hr x hx1 hxJ
  refine ⟨g', w, _, { gh x with stage := 6, rk := Rk.nat k }, hstp, ?_, .inl (by show 6 < (gh x).stage; omega), rfl, .refl _ L w, ⟨fun _ => by omega, fun _ => by show 5 ≤ 6; omega⟩, fun _ => by omega, rfl⟩
  refine inv_oth hS I hx1 hxJ hg (.inl hxm) (Ch.idle C _ x w) (grow_idle _ w) rfl (fun e he => ?_) ?_ ?_ ?_
  · simp only [List.mem_toArray, List.mem_singleton] at he
    subst he
    exact ⟨fun y hy => by (cases hy), hWlt, fun a x => by (cases x)⟩
  · exact ⟨k, rfl, hG, hd⟩
  · refine ⟨fun hlt => by omega, fun _ _ => ⟨(hRs.2 hxm (by omega)).1, fun _ => hhas⟩⟩
  · have hdeaf : Deaf t x = 0 := hT.1.trans hd
    refine ⟨by rw [Deaf_own, hdeaf]; exact hd.symm, fun _ _ => ⟨t.size, ?_⟩⟩
    have e1 : MemOp.ofEvents x g.frame.fn g.frame.place #[mk (.releaseMerge (stA C.Wg))] = #[{ g := x, fn := g.frame.fn, pos := g.frame.place, act := .mark (.releaseMerge (stA C.Wg)) }] := by simp [ofEvents_eq, mk, MemAct.ofEvent]
    rw [e1]
    have hlast : (t ++ #[({ g := x, fn := g.frame.fn, pos := g.frame.place, act := .mark (.releaseMerge (stA C.Wg)) } : MemOp)])[t.size]? = some { g := x, fn := g.frame.fn, pos := g.frame.place, act := .mark (.releaseMerge (stA C.Wg)) } := by rw [Array.getElem?_append_right (Nat.le_refl _)]; simp
    have hnone : ∀ i, t.size < i → (t ++ #[({ g := x, fn := g.frame.fn, pos := g.frame.place, act := .mark (.releaseMerge (stA C.Wg)) } : MemOp)])[i]? = none := by
      intro i hi
      rw [Array.getElem?_eq_none_iff]
      simp; omega
    refine ⟨⟨by simp [Trace.act?, hlast], by simp [Trace.g?, hlast], ⟨x, by simp [Trace.g?, hlast], by rw [deaf_old (Nat.le_refl _)]; exact hdeaf⟩, fun i hi hgi => ?_⟩, fun i b hi hgi => ?_⟩
    · unfold Trace.g? at hgi; rw [hnone i hi] at hgi; cases hgi
    · unfold Trace.g? at hgi; rw [hnone i hi] at hgi; cases hgi

/-- It grows deaf. -/
theorem next_dis (hS : C.Stable) (I : Inv C L J gh gs w t) {x : Nat} {g : Goroutine} (hx1 : 1 ≤ x) (hxJ : x ≤ J) (hxm : C.m ≤ x) (hg : gs[x]? = some g) (hst : (gh x).stage = 6) (hd : (gh x).d = 0) (hR : AtK1 C.P C.ty C.Wg C.T C.n 0 (x - C.m + 1) g w) : Next C L J gh gs w t x g := by
  obtain ⟨hrun, g', hstp, k, hG⟩ := hR
  have hT := I.ht x hx1 hxJ
  have hRs := I.hr x hx1 hxJ
  refine ⟨g', w, _, { gh x with stage := 5, rk := Rk.nat k, d := 1 }, hstp, ?_, .inl (by show 5 < (gh x).stage; omega), rfl, .refl _ L w, ⟨fun _ => by omega, fun _ => by show 5 ≤ 5; omega⟩, fun _ => by omega, rfl⟩
  refine inv_oth hS I hx1 hxJ hg (.inl hxm) (Ch.idle C _ x w) (grow_idle _ w) rfl (fun e he => ?_) ?_ ?_ ?_
  · simp only [List.mem_toArray, List.mem_singleton] at he
    subst he
    exact ⟨fun y hy => by (cases hy), trivial, fun a x => by (cases x)⟩
  · exact ⟨k, rfl, hG, rfl⟩
  · exact ⟨fun hlt => by omega, fun _ _ => ⟨(hRs.2 hxm (by omega)).1, fun _ => (hRs.2 hxm (by omega)).2 (by omega)⟩⟩
  · have hdeaf : Deaf t x = 0 := hT.1.trans hd
    refine ⟨by rw [Deaf_own, hdeaf]; rfl, fun _ _ => ?_⟩
    obtain ⟨r, hs⟩ := hT.2 hxm (by omega)
    refine ⟨r, hs.other fun op hop => .inr ?_⟩
    obtain ⟨e, he, rfl⟩ := ops_mem hop
    simp only [List.mem_toArray, List.mem_singleton] at he
    subst he
    rfl
end

end Go.Proofs.Ytcgjppacnhmjlaa.Sim
end
