/- Own texts: FwK, FwL. -/
import Derived.Test.YtcgjppacnhmjlaaFmAN
import Derived.Test.YtcgjppacnhmjlaaFmBB

section
set_option linter.unusedVariables false
set_option linter.unusedSimpArgs false
set_option linter.unusedSectionVars false
/-! A worker, from its birth to its Done. -/
namespace Go.Proofs.Ytcgjppacnhmjlaa.Sim
open Go Go.Conc Go.ConcN Go.Conc.Lib Go.ConcR.Gen
open Go.ConcR (KK wgBlock WgAt stA smA rd wr mk Payload DC0)
set_option linter.unusedVariables false
set_option linter.unusedSectionVars false
set_option linter.unusedSimpArgs false

def updX (x : Nat → Value) (j : Nat) (v : Value) : Nat → Value := fun i => if i = j then v else x i
theorem updX_same (x : Nat → Value) (j : Nat) (v : Value) : updX x j v j = v := if_pos rfl
theorem updX_ne (x : Nat → Value) {i j : Nat} (v : Value) (h : i ≠ j) : updX x j v i = x i := if_neg h
theorem updX_id {x : Nat → Value} {j : Nat} {v : Value} (h : x j = v) : updX x j v = x := by
  funext i
  by_cases e : i = j
  · subst e; rw [updX_same, h]
  · rw [updX_ne x v e]

/-- A cell of a part: a text or a number. -/
def Plain1 (v : Value) : Prop := (∃ s, v = .string s) ∨ ∃ k n, v = .int k n
/-- A part lies so. -/
def PartAt (part : Nat → Prop) (w : World) (v : Value) (ps : List PP) : Prop :=
  (ps = [] ∧ v = .slice none 0 0) ∨ ∃ k o cap c e f, part k ∧ v = .slice (some ⟨k, o, none⟩) ps.length cap ∧ 0 < ps.length ∧ w.heap[k]? = some (.cells c e f) ∧ PairsAt w k o ps ∧ ∀ x ∈ c, Plain1 x
/-- Where a worker works. -/
structure Wp where
  z : WZ
  n : Nat
  Wg : Nat
  vP : Value
  ps : List PP
  B1 : Nat
  B2 : Nat
  b8 : Nat
  b4 : Nat
  b7 : Nat
  b5 : Nat
abbrev slc (b n : Nat) : Value := .slice (some ⟨b, 0, none⟩) n n
/-- What it finds there. -/
structure Wp.F (p : Wp) (w : World) : Prop where
  c8 : w.cell? ⟨p.b8, 0, none⟩ = some p.vP
  c4 : w.cell? ⟨p.b4, 0, none⟩ = some (slc p.z.T p.n)
  c7 : w.cell? ⟨p.b7, 0, none⟩ = some (.int .i64 p.z.i)
  c5 : w.cell? ⟨p.b5, 0, none⟩ = some (slc p.z.E p.n)
  cg : w.cell? ⟨p.B1, 0, none⟩ = some (pwg p.Wg)
  cf : w.cell? ⟨p.B2, 0, none⟩ = some (fvv p.b8 p.b4 p.b7 p.b5)
  tT : ∃ c e, w.heap[p.z.T]? = some (.cells c e (0, 0)) ∧ c.size = p.n
  tE : ∃ c e, w.heap[p.z.E]? = some (.cells c e (0, 0)) ∧ c.size = p.n
  all : ∀ b, p.z.all b → b < w.heap.size
  pairs : PartAt p.z.part w p.vP p.ps
  glob : Try.prog.globals.size ≤ w.heap.size
structure Wp.Ok (p : Wp) : Prop where
  part : p.z.part p.b8 ∧ p.z.part p.b4 ∧ p.z.part p.b7 ∧ p.z.part p.b5 ∧ p.z.part p.B1 ∧ p.z.part p.B2
  out : ¬ p.z.part p.z.T ∧ ¬ p.z.part p.z.E
  ne : p.z.T ≠ p.z.E
  lt : p.z.i < p.n

section
variable {p : Wp} {w w1 : World} {M : Nat → Prop}
theorem same_cell {b k : Nat} {v : Value} (h : SameC w w1 b) (hc : w.cell? ⟨b, k, none⟩ = some v) : w1.cell? ⟨b, k, none⟩ = some v := by
  unfold World.cell? at hc ⊢
  split at hc
  · rename_i c e f hb
    obtain ⟨f1, h1⟩ := h c e f hb
    rw [h1]; exact hc
  · cases hc
theorem payx_cell {B i : Nat} {v : Value} (h : PayX B i w w1) (hc : w.cell? ⟨B, i, none⟩ = some v) : w1.cell? ⟨B, i, none⟩ = some v := by
  unfold World.cell? at hc ⊢
  split at hc
  · rename_i c e f hb
    obtain ⟨c1, h1, _, h3⟩ := h c e f hb
    rw [h1]
    simp only at hc ⊢
    rw [h3]; exact hc
  · cases hc
theorem PartAt.keep {part : Nat → Prop} {v : Value} {ps : List PP} (h : PartAt part w v ps) (hp : ∀ b, part b → SameC w w1 b) : PartAt part w1 v ps := by
  rcases h with h | ⟨k, o, cap, c, e, f, h1, h2, h3, h4, h5, h6⟩
  · exact .inl h
  · obtain ⟨f1, h7⟩ := hp k h1 c e f h4
    exact .inr ⟨k, o, cap, c, e, f1, h1, h2, h3, h7, fun i p hi => ⟨same_cell (hp k h1) (h5 i p hi).1, same_cell (hp k h1) (h5 i p hi).2.1, same_cell (hp k h1) (h5 i p hi).2.2.1, same_cell (hp k h1) (h5 i p hi).2.2.2⟩, h6⟩
/-- It stays so. -/
theorem Wp.F.keep (ok : p.Ok) (h : p.F w) (hs : w.heap.size ≤ w1.heap.size) (hp : ∀ b, p.z.part b → SameC w w1 b) (hT : ∀ c e f, w.heap[p.z.T]? = some (.cells c e f) → ∃ c1, w1.heap[p.z.T]? = some (.cells c1 e f) ∧ c1.size = c.size) (hE : ∀ c e f, w.heap[p.z.E]? = some (.cells c e f) → ∃ c1, w1.heap[p.z.E]? = some (.cells c1 e f) ∧ c1.size = c.size) : p.F w1 := by
  obtain ⟨h8, h4, h7, h5, hg, hf⟩ := ok.part
  refine ⟨same_cell (hp _ h8) h.c8, same_cell (hp _ h4) h.c4, same_cell (hp _ h7) h.c7, same_cell (hp _ h5) h.c5, same_cell (hp _ hg) h.cg, same_cell (hp _ hf) h.cf, ?_, ?_, fun b hb => Nat.lt_of_lt_of_le (h.all b hb) hs, h.pairs.keep hp, Nat.le_trans h.glob hs⟩
  · obtain ⟨c, e, h1, h2⟩ := h.tT
    obtain ⟨c1, h3, h4⟩ := hT _ _ _ h1
    exact ⟨c1, e, h3, h4.trans h2⟩
  · obtain ⟨c, e, h1, h2⟩ := h.tE
    obtain ⟨c1, h3, h4⟩ := hE _ _ _ h1
    exact ⟨c1, e, h3, h4.trans h2⟩
theorem Wp.F.ry (ok : p.Ok) (h : p.F w) (hr : Ry p.z M w w1) : p.F w1 :=
  h.keep ok hr.size hr.part (fun c e f hc => let ⟨c1, a, b, _⟩ := hr.payT c e f hc; ⟨c1, a, b⟩) (fun c e f hc => let ⟨c1, a, b, _⟩ := hr.payE c e f hc; ⟨c1, a, b⟩)

/-- How far it is. -/
structure Wp.K (p : Wp) (Rs : Value → Value → (Nat → Prop) → World → Prop) (l : Nat → Bool) (M : Nat → Prop) (x : Nat → Value) (w : World) : Prop where
  f : p.F w
  out : ∀ b, M b → ¬ p.z.all b
  v0 : l 0 = true → x 5 = slc p.z.T p.n
  v1 : l 1 = true → x 6 = .int .i64 p.z.i
  v2 : l 2 = true → x 7 = slc p.z.E p.n
  v3 : l 3 = true → x 8 = .int .i64 p.z.i
  v4 : l 4 = true → x 9 = p.vP
  no : l 5 = false → ∀ b, ¬ M b
  v9 : l 9 = true → x 13 = .pointer (some ⟨p.z.T, p.z.i, none⟩)
  v11 : l 11 = true → x 14 = .pointer (some ⟨p.z.E, p.z.i, none⟩)
  val : l 5 = true → ∃ vt ve, vt.oneCell' = true ∧ ve.oneCell' = true ∧ x 10 = .tuple #[vt, ve] ∧ (l 6 = true → x 4 = .tuple #[vt, ve]) ∧ (l 7 = true → x 11 = vt) ∧ (l 8 = true → x 12 = ve) ∧ Rs vt ve M w ∧
    (l 10 = true → w.cell? ⟨p.z.T, p.z.i, none⟩ = some vt) ∧ (l 12 = true → w.cell? ⟨p.z.E, p.z.i, none⟩ = some ve)

variable {Rs : Value → Value → (Nat → Prop) → World → Prop}
theorem Wp.K.keep (hRs : ∀ vt ve M w w1, (∀ b, M b → w1.heap[b]? = w.heap[b]?) → Rs vt ve M w → Rs vt ve M w1) {l : Nat → Bool} {x : Nat → Value} (h : p.K Rs l M x w) (hf : p.F w1) (hM : ∀ b, M b → w1.heap[b]? = w.heap[b]?) (hT : l 10 = true → w1.cell? ⟨p.z.T, p.z.i, none⟩ = w.cell? ⟨p.z.T, p.z.i, none⟩) (hE : l 12 = true → w1.cell? ⟨p.z.E, p.z.i, none⟩ = w.cell? ⟨p.z.E, p.z.i, none⟩) : p.K Rs l M x w1 :=
  ⟨hf, h.out, h.v0, h.v1, h.v2, h.v3, h.v4, h.no, h.v9, h.v11, fun h5 => by
    obtain ⟨vt, ve, a1, a2, a3, a4, a5, a6, a7, a8, a9⟩ := h.val h5
    exact ⟨vt, ve, a1, a2, a3, a4, a5, a6, hRs _ _ _ _ _ hM a7, fun h => (hT h).trans (a8 h), fun h => (hE h).trans (a9 h)⟩⟩
end

end Go.Proofs.Ytcgjppacnhmjlaa.Sim
end

section
set_option linter.unusedVariables false
set_option linter.unusedSimpArgs false
set_option linter.unusedSectionVars false
/-! A worker: its operations. -/
namespace Go.Proofs.Ytcgjppacnhmjlaa.Sim
open Go Go.Conc Go.ConcN Go.Conc.Lib Go.ConcR.Gen
open Go.ConcR (KK wgBlock WgAt stA smA rd wr mk Payload DC0)
set_option linter.unusedVariables false
set_option linter.unusedSectionVars false
set_option linter.unusedSimpArgs false

section
variable {p : Wp} {w w1 : World} {M : Nat → Prop} {Rs : Value → Value → (Nat → Prop) → World → Prop} {l : Nat → Bool} {x : Nat → Value} {v : Value}

theorem Wp.K.s0 (h : p.K Rs l M x w) : p.K Rs (setL l 0) M (updX x 5 (slc p.z.T p.n)) w :=
  ⟨h.f, h.out, fun _ => rfl, fun a => h.v1 a, fun a => h.v2 a, fun a => h.v3 a, fun a => h.v4 a, fun a => h.no a, fun a => h.v9 a, fun a => h.v11 a, fun a => h.val a⟩
theorem Wp.K.s1 (h : p.K Rs l M x w) : p.K Rs (setL l 1) M (updX x 6 (.int .i64 p.z.i)) w :=
  ⟨h.f, h.out, fun a => h.v0 a, fun _ => rfl, fun a => h.v2 a, fun a => h.v3 a, fun a => h.v4 a, fun a => h.no a, fun a => h.v9 a, fun a => h.v11 a, fun a => h.val a⟩
theorem Wp.K.s2 (h : p.K Rs l M x w) : p.K Rs (setL l 2) M (updX x 7 (slc p.z.E p.n)) w :=
  ⟨h.f, h.out, fun a => h.v0 a, fun a => h.v1 a, fun _ => rfl, fun a => h.v3 a, fun a => h.v4 a, fun a => h.no a, fun a => h.v9 a, fun a => h.v11 a, fun a => h.val a⟩
theorem Wp.K.s3 (h : p.K Rs l M x w) : p.K Rs (setL l 3) M (updX x 8 (.int .i64 p.z.i)) w :=
  ⟨h.f, h.out, fun a => h.v0 a, fun a => h.v1 a, fun a => h.v2 a, fun _ => rfl, fun a => h.v4 a, fun a => h.no a, fun a => h.v9 a, fun a => h.v11 a, fun a => h.val a⟩
theorem Wp.K.s4 (h : p.K Rs l M x w) : p.K Rs (setL l 4) M (updX x 9 p.vP) w :=
  ⟨h.f, h.out, fun a => h.v0 a, fun a => h.v1 a, fun a => h.v2 a, fun a => h.v3 a, fun _ => rfl, fun a => h.no a, fun a => h.v9 a, fun a => h.v11 a, fun a => h.val a⟩
theorem Wp.K.s5 (h : p.K Rs l M x w) {M' : Nat → Prop} {vt ve : Value} (hf : p.F w1) (ho : ∀ b, M' b → ¬ p.z.all b) (h1 : vt.oneCell' = true) (h2 : ve.oneCell' = true) (hr : Rs vt ve M' w1) (n6 : l 6 = false) (n7 : l 7 = false) (n8 : l 8 = false) (n10 : l 10 = false) (n12 : l 12 = false) : p.K Rs (setL l 5) M' (updX x 10 (.tuple #[vt, ve])) w1 :=
  ⟨hf, ho, fun a => h.v0 a, fun a => h.v1 a, fun a => h.v2 a, fun a => h.v3 a, fun a => h.v4 a, fun a => absurd (show setL l 5 5 = false from a) (by rw [setL_same]; simp), fun a => h.v9 a, fun a => h.v11 a, fun _ => ⟨vt, ve, h1, h2, rfl, fun a => absurd (show l 6 = true from a) (by rw [n6]; simp), fun a => absurd (show l 7 = true from a) (by rw [n7]; simp), fun a => absurd (show l 8 = true from a) (by rw [n8]; simp), hr, fun a => absurd (show l 10 = true from a) (by rw [n10]; simp), fun a => absurd (show l 12 = true from a) (by rw [n12]; simp)⟩⟩
theorem Wp.K.s6 (h : p.K Rs l M x w) : p.K Rs (setL l 6) M (updX x 4 (x 10)) w :=
  ⟨h.f, h.out, fun a => h.v0 a, fun a => h.v1 a, fun a => h.v2 a, fun a => h.v3 a, fun a => h.v4 a, fun a => h.no a, fun a => h.v9 a, fun a => h.v11 a, fun a => by
    obtain ⟨vt, ve, a1, a2, a3, a4, a5, a6, a7, a8, a9⟩ := h.val a
    exact ⟨vt, ve, a1, a2, a3, fun _ => a3, a5, a6, a7, a8, a9⟩⟩
theorem Wp.K.s9 (h : p.K Rs l M x w) : p.K Rs (setL l 9) M (updX x 13 (.pointer (some ⟨p.z.T, p.z.i, none⟩))) w :=
  ⟨h.f, h.out, fun a => h.v0 a, fun a => h.v1 a, fun a => h.v2 a, fun a => h.v3 a, fun a => h.v4 a, fun a => h.no a, fun _ => rfl, fun a => h.v11 a, fun a => h.val a⟩
theorem Wp.K.s11 (h : p.K Rs l M x w) : p.K Rs (setL l 11) M (updX x 14 (.pointer (some ⟨p.z.E, p.z.i, none⟩))) w :=
  ⟨h.f, h.out, fun a => h.v0 a, fun a => h.v1 a, fun a => h.v2 a, fun a => h.v3 a, fun a => h.v4 a, fun a => h.no a, fun a => h.v9 a, fun _ => rfl, fun a => h.val a⟩
end

section
variable (B1 B2 b8 b4 b7 b5 : Nat) (x : Nat → Value) (rest : List Nat)
set_option maxRecDepth 100000 in
theorem r_at (i : Nat) (hi : i < 13) (h5 : i ≠ 5) : AtR (gR B1 B2 b8 b4 b7 b5 x (i :: rest)) i := by
  match i, hi, h5 with
  | 0, _, _ => exact ⟨by kernel_rfl, by kernel_rfl, by kernel_rfl, by kernel_rfl⟩
  | 1, _, _ => exact ⟨by kernel_rfl, by kernel_rfl, by kernel_rfl, by kernel_rfl⟩
  | 2, _, _ => exact ⟨by kernel_rfl, by kernel_rfl, by kernel_rfl, by kernel_rfl⟩
  | 3, _, _ => exact ⟨by kernel_rfl, by kernel_rfl, by kernel_rfl, by kernel_rfl⟩
  | 4, _, _ => exact ⟨by kernel_rfl, by kernel_rfl, by kernel_rfl, by kernel_rfl⟩
  | 6, _, _ => exact ⟨by kernel_rfl, by kernel_rfl, by kernel_rfl, by kernel_rfl⟩
  | 7, _, _ => exact ⟨by kernel_rfl, by kernel_rfl, by kernel_rfl, by kernel_rfl⟩
  | 8, _, _ => exact ⟨by kernel_rfl, by kernel_rfl, by kernel_rfl, by kernel_rfl⟩
  | 9, _, _ => exact ⟨by kernel_rfl, by kernel_rfl, by kernel_rfl, by kernel_rfl⟩
  | 10, _, _ => exact ⟨by kernel_rfl, by kernel_rfl, by kernel_rfl, by kernel_rfl⟩
  | 11, _, _ => exact ⟨by kernel_rfl, by kernel_rfl, by kernel_rfl, by kernel_rfl⟩
  | 12, _, _ => exact ⟨by kernel_rfl, by kernel_rfl, by kernel_rfl, by kernel_rfl⟩
  | 5, _, h => exact absurd rfl h
  | n + 13, h, _ => omega
end

section
variable {p : Wp} {w : World} {M : Nat → Prop} {Rs : Value → Value → (Nat → Prop) → World → Prop} {l : Nat → Bool} {x : Nat → Value} {rest : List Nat} {Q : (Nat → Prop) → Goroutine → World → Prop}
noncomputable abbrev Wp.g (p : Wp) (x : Nat → Value) (rest : List Nat) : Goroutine := gR p.B1 p.B2 p.b8 p.b4 p.b7 p.b5 x rest

theorem ry_cell {b : Nat} {v : Value} {w1 : World} (hb : p.z.part b) (hr : Ry p.z M w w1) (hc : w.cell? ⟨b, 0, none⟩ = some v) : w1.cell? ⟨b, 0, none⟩ = some v := same_cell (hr.part b hb) hc
/-- A load of a box. -/
theorem cog_box {g : Goroutine} {i b : Nat} {t : TypeId} {y : Operand} {v : Value} (hrun : g.status = .running) (h : AtR g i) (hop : (oG g).op = .load t y) (hx : (aG g).eval y = .pointer (some ⟨b, 0, none⟩)) (hg : ∀ w, (isAgg t).run Try.prog w = .ok false w) (hb : p.z.part b) (hc : w.cell? ⟨b, 0, none⟩ = some v) (hn : CoG Try.prog p.z Q M (putG g v) w) : CoG Try.prog p.z Q M g w := by
  refine .look hrun (fun w1 hr => ⟨_, step_ld h hop hx (hg w1) (ry_cell hb hr hc), fun e he => ?_⟩) hn
  have := seen_cell _ _ _ e he
  subst this
  exact .inl ⟨_, rfl, .inr (.inr ⟨hb, rfl⟩)⟩
theorem CoG.eqv {z : WZ} {g g' : Goroutine} (h : g = g') (hn : CoG Try.prog z Q M g' w) : CoG Try.prog z Q M g w := h ▸ hn

/-- A write of its own cell of the two blocks. -/
theorem cog_pay {g : Goroutine} {i B : Nat} {t : TypeId} {y u : Operand} {v : Value} (ok : p.Ok) (hf : p.F w) (hM : ∀ b, M b → ¬ p.z.all b) (hB : B = p.z.T ∨ B = p.z.E) (hrun : g.status = .running) (h : AtR g i) (hop : (oG g).op = .store t y u) (hx : (aG g).eval y = .pointer (some ⟨B, p.z.i, none⟩)) (hy : (aG g).eval u = v) (hv : v.oneCell' = true) (hs : ∀ w, (sizeOf t).run Try.prog w = .ok 1 w)
    (hn : ∀ w1, Ry p.z M w w1 → p.F (w1.setCell ⟨B, p.z.i, none⟩ v) → (w1.setCell ⟨B, p.z.i, none⟩ v).cell? ⟨B, p.z.i, none⟩ = some v → (∀ b, b ≠ B → (w1.setCell ⟨B, p.z.i, none⟩ v).heap[b]? = w1.heap[b]?) → CoG Try.prog p.z Q M (putG g undef) (w1.setCell ⟨B, p.z.i, none⟩ v)) : CoG Try.prog p.z Q M g w := by
  refine .step hrun fun w1 hr => ?_
  have hf1 := hf.ry ok hr
  have hblk : ∃ c e, w1.heap[B]? = some (.cells c e (0, 0)) ∧ c.size = p.n := by
    rcases hB with rfl | rfl
    · exact hf1.tT
    · exact hf1.tE
  obtain ⟨c, e, hb, hsz⟩ := hblk
  have hlt : p.z.i < c.size := by rw [hsz]; exact ok.lt
  have hc : w1.cell? ⟨B, p.z.i, none⟩ = some c[p.z.i] := by simp [World.cell?, hb, hlt]
  have hz : w1.frozen? ⟨B, p.z.i, none⟩ = false := by simp [World.frozen?, hb]
  have has := aside_setCell w1 ⟨B, p.z.i, none⟩ v
  have hset : (w1.setCell ⟨B, p.z.i, none⟩ v).heap[B]? = some (.cells (c.setIfInBounds p.z.i v) e (0, 0)) := by
    have hBl := (Array.getElem?_eq_some_iff.1 hb).1
    simp [World.setCell, Array.getElem?_modify, hb]
  have pay : ∀ B', PayY B' p.z.i w1 (w1.setCell ⟨B, p.z.i, none⟩ v) := by
    intro B' c' e' f' hc'
    by_cases eB : B' = B
    · subst eB
      rw [hb] at hc'; cases hc'
      exact ⟨_, hset, by simp, fun j hj => by rw [Array.getElem?_setIfInBounds_ne (Ne.symm hj)]⟩
    · exact ⟨c', by rw [has.block _ eB]; exact hc', rfl, fun _ _ => rfl⟩
  have npart : ∀ b, p.z.part b → b ≠ B := fun b hb' e => by subst e; rcases hB with e | e; exact ok.out.1 (e ▸ hb'); exact ok.out.2 (e ▸ hb')
  have hf2 : p.F (w1.setCell ⟨B, p.z.i, none⟩ v) := hf1.keep ok (by rw [has.size]; exact Nat.le_refl _) (fun b hb' => .of_eq (has.block b (npart b hb'))) (fun c e f hc => let ⟨c1, a, b, _⟩ := pay _ c e f hc; ⟨c1, a, b⟩) (fun c e f hc => let ⟨c1, a, b, _⟩ := pay _ c e f hc; ⟨c1, a, b⟩)
  have hgr : grow M w1 (w1.setCell ⟨B, p.z.i, none⟩ v) = M := grow_set ..
  refine ⟨_, _, _, step_st h hop hx hy hv (hs w1) hc hz, ⟨by rw [has.size]; exact Nat.le_refl _, fun b hb' hnM hT hE hp => has.block b fun e => by subst e; rcases hB with e | e; exact hT e; exact hE e, fun b hb' => .of_eq (has.block b (npart b hb')), pay _, pay _, has.tape, has.os, has.output, fun e he => ?_⟩, ?_⟩
  · have := seen_cell _ _ _ e he
    subst this
    exact .inl ⟨_, rfl, .inr (.inl ⟨hB, rfl⟩)⟩
  · rw [hgr]
    exact hn w1 hr hf2 (by simp [World.cell?, hset, hlt]) fun b hb' => has.block b hb'
end

end Go.Proofs.Ytcgjppacnhmjlaa.Sim
end
