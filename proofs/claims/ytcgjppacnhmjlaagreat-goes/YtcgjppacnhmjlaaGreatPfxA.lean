/- A range over a function that may itself range over one: blocks bear labels, and what bears none stays; the law for the loop. The keys that begin so, among those from there on: no program in it. Prefix: the function that it gives ranges over Scan's. -/
import Derived.Test.YtcgjppacnhmjlaaGreatWalkF
import Derived.RangeFuncNested
set_option linter.unusedVariables false
set_option linter.unusedSimpArgs false
namespace Go.Proofs.YtcgjppacnhmjlaaGreat

section
open Go.RowKit

/-- From A (labels ρ) to B (labels ρ') what bears no label has stayed, and labels stay. -/
structure Lab (ρ : Nat → Nat) (A : World) (ρ' : Nat → Nat) (B : World) : Prop where
  size : A.heap.size ≤ B.heap.size
  agree : ∀ k, k < A.heap.size → ρ' k = ρ k
  block : ∀ k, k < A.heap.size → ρ k = 0 → B.heap[k]? = A.heap[k]?
theorem Lab.refl (ρ : Nat → Nat) (A : World) : Lab ρ A ρ A := ⟨Nat.le_refl _, fun _ _ => rfl, fun _ _ _ => rfl⟩
theorem Lab.trans {ρ ρ1 ρ2 : Nat → Nat} {A B C : World} (h : Lab ρ A ρ1 B) (k : Lab ρ1 B ρ2 C) : Lab ρ A ρ2 C :=
  ⟨Nat.le_trans h.size k.size, fun i hi => (k.agree i (Nat.lt_of_lt_of_le hi h.size)).trans (h.agree i hi), fun i hi h0 => (k.block i (Nat.lt_of_lt_of_le hi h.size) ((h.agree i hi).trans h0)).trans (h.block i hi h0)⟩
theorem Lab.below {ρ : Nat → Nat} {A B : World} (h : Below A.heap.size A B) : Lab ρ A ρ B := ⟨h.size, fun _ _ => rfl, fun k hk _ => h.block k hk⟩

/-- What a function that is ranged over does, called in a world whose labels, as far as w goes, are ρ₀. -/
def SeqR {α : Type} (P : Program) (g : Nat) (lb : Array Value) (encs : α → Array Value) (S Sp : List α → Prop) (N : Nat) (ρ₀ : Nat → Nat) (w : World) : Prop :=
  ∀ (m l : Nat) (J Jx : (Nat → Nat) → List α → World → Prop) (ρ : Nat → Nat) (W : World), Below w.heap.size w W → (∀ k, k < w.heap.size → ρ k = ρ₀ k) → (∀ ρ, OwnFrom W.heap.size (J ρ)) → (∀ ρ, OwnFrom W.heap.size (Jx ρ)) → (∀ ρ pre A, J ρ pre A → ∀ k, A.heap.size ≤ k → ρ k = 0) →
    (∀ m' ρ pre x A, J ρ pre A → pre.length < N → YieldAt Fence.wide m' P l (encs x) A fun e B => KeepsFrom W.heap.size A B ∧ ((∃ ρ', e = .returned (.bool true) ∧ Lab ρ A ρ' B ∧ J ρ' (pre ++ [x]) B) ∨ (∃ ρ', e = .returned (.bool false) ∧ Jx ρ' (pre ++ [x]) B))) →
    J ρ [] W →
    CallsIn Fence.wide m P g (#[.func (.yield l) #[] #[]] ++ lb) W fun e B => (∃ v, e = .returned v) ∧ ((∃ xs ρ', S xs ∧ J ρ' xs B) ∨ (∃ pre ρ', Sp pre ∧ Jx ρ' pre B))

/-- How the body of a round may be left. -/
def labPost {α : Type} (I : (Nat → Nat) → List α → World → Prop) (Ix : Code → (Nat → Nat) → List α → World → Prop) (ρ : Nat → Nat) (xs : List α) (A : World) : Exit → Act → World → Prop
  | .normal, _, B => KeepsOthers A B ∧ ∃ ρ', Lab ρ A ρ' B ∧ I ρ' xs B
  | .ret, _, B => KeepsOthers A B ∧ ∃ ρ', Ix .ret ρ' xs B
  | .exit id, _, B => KeepsOthers A B ∧ ∃ ρ', Ix (.exit id) ρ' xs B
  | .goto t, _, B => KeepsOthers A B ∧ ∃ ρ', Ix (.goto t) ρ' xs B
  | .panic _, _, _ => False
  | .outgrown, _, _ => False

section
variable {α : Type} {P : Program} {n : Nat} {g : Operand} {ps : Array Tmp} {assign body : Code} {Q : Exit → Act → World → Prop} {a : Act} {w : World}
theorem grown_far {A B : World} {row : Option Nat} {k : Nat} {ob : Obj} (hg : A.grownBy B row) (hr : ∀ r, row = some r → k < r) (h : A.heap[k]? = some ob) : B.heap[k]? = some ob :=
  (hg.block k (Array.getElem?_eq_some_iff.1 h).1 (fun e => by have := hr k e.symm; omega)).trans h
theorem range_lab {gf : Nat} {lb : Array Value} (hg : a.eval g = .func (.func gf) #[] lb) (eg : ∀ args w, (callFunc gf args).run P w = .ok (.enter gf args) w)
    {encs : α → Array Value} {S Sp : List α → Prop} {N : Nat} {ρ₀ ρ : Nat → Nat} {w0 : World} (hseq : SeqR P gf lb encs S Sp N ρ₀ w0) (hb0 : Below w0.heap.size w0 w) (hρ : ∀ k, k < w0.heap.size → ρ k = ρ₀ k) (hps : ∀ x, (encs x).size = ps.size)
    (I : (Nat → Nat) → List α → World → Prop) (Ix : Code → (Nat → Nat) → List α → World → Prop) (hI : ∀ ρ, OwnFrom w.heap.size (I ρ)) (hIx : ∀ c ρ, OwnFrom w.heap.size (Ix c ρ)) (hf : ∀ ρ pre A, I ρ pre A → ∀ k, A.heap.size ≤ k → ρ k = 0) (h0 : I ρ [] w) (a₁ : α → Act)
    (hassign : ∀ (m l : Nat) (x : α) (W : World) (K : Act → World → Prop), K (a₁ x) W →
      assign.wpIn (Fence.wide.inRound l) m P (Exit.then K (fun _ _ _ => False)) { tmps := (ps.zip (encs x)).foldl (fun t (p, v) => t.setIfInBounds p v) a.tmps, defers := [] } W)
    (hbody : ∀ (m l : Nat) (ρ : Nat → Nat) (pre : List α) (x : α) (A : World), I ρ pre A → pre.length < N → body.wpIn (Fence.wide.inRound l) m P (labPost I Ix ρ (pre ++ [x]) A) (a₁ x) A)
    (hdone : ∀ (D : Nat) (xs : List α) (ρ : Nat → Nat) (W : World), w.heap.size ≤ D → S xs → I ρ xs W → W.heap[D]? = some (.deferred (some [])) → Q .normal { a with defers := { target := .collected D, args := #[] } :: a.defers } W)
    (hstop : ∀ (D : Nat) (c : Code) (pre : List α) (ρ : Nat → Nat) (W : World), w.heap.size ≤ D → Sp pre → Ix c ρ pre W → W.heap[D]? = some (.deferred (some [])) → c.wpIn Fence.wide n P Q { a with defers := { target := .collected D, args := #[] } :: a.defers } W) :
    (Code.rangeFunc g ps assign body).wpIn Fence.wide n P Q a w := by
  refine wpIn_rangeFunc fun fn _ => ?_
  obtain ⟨d, hd⟩ : ∃ d, w.heap.size = d := ⟨_, rfl⟩
  obtain ⟨lp, hlp⟩ : ∃ lp : LoopState → Option Code → Obj, lp = fun st pe => .loop { state := st, pending := pe, fn, tmps := a.tmps, params := ps, assign, body, defers := d } := ⟨_, rfl⟩
  have ncl : ∀ st pe, (lp st pe).isCells = false ∧ (lp st pe).isWalk = false := fun st pe => by rw [hlp]; exact ⟨rfl, rfl⟩
  obtain ⟨V, hV⟩ : ∃ V, (w.alloc (.deferred (some []))).alloc (lp .ready none) = V := ⟨_, rfl⟩
  have hVs : V.heap.size = d + 2 := by rw [← hV, ← hd]; simp
  have vl : V.heap[d + 1]? = some (lp .ready none) := by
    rw [← hV]; have := World.alloc_heap_new (w.alloc (.deferred (some []))) (lp .ready none); rw [World.size_alloc, hd] at this; exact this
  have vd : V.heap[d]? = some (.deferred (some [])) := by
    rw [← hV]; exact (Below.heap_alloc _ _ _ (by simp [hd])).trans (by have := World.alloc_heap_new w (.deferred (some [])); rw [hd] at this; exact this)
  have hbV : Below w.heap.size w V := by rw [← hV]; exact ((Below.refl _ _).alloc (Nat.le_refl _) _).alloc (by simp) _
  rw [hd] at hI hIx
  have up : ∀ {A B : World} {row : Option Nat}, (∀ r, row = some r → V.heap.size ≤ r ∧ ∃ o : Obj, A.heap[r]? = some o ∧ o.isCells = false) → ∀ r, row = some r → d ≤ r ∧ ∃ o : Obj, A.heap[r]? = some o ∧ o.isCells = false := fun h r e => ⟨by have := (h r e).1; omega, (h r e).2⟩
  have far : ∀ {A : World} {row : Option Nat} (k : Nat), k ≤ d + 1 → (∀ r, row = some r → V.heap.size ≤ r ∧ ∃ o : Obj, A.heap[r]? = some o ∧ o.isCells = false) → ∀ r, row = some r → k < r := fun k hk h r e => by have := (h r e).1; omega
  refine ⟨d + 1, [{ target := .collected d, args := #[] }], V, { target := .fn (.func gf) lb, args := #[.func (.yield (d + 1)) #[] #[]] }, V, gf, #[.func (.yield (d + 1)) #[] #[]] ++ lb, V, ?_, ?_, fun _ _ => trivial, ?_, (fun h => by cases h), ?_⟩
  · have := run_enterLoop_outer (P := P) (w := w) fn a.tmps ps assign body
    rw [← hV, hlp, ← hd]; exact this
  · simp only [resolve, hg]; simp [go_sem]
  · simp [invoke, go_sem, eg]
  refine (hseq (n - 1) (d + 1)
    (fun ρ pre A => I ρ pre A ∧ A.heap[d + 1]? = some (lp .ready none) ∧ A.heap[d]? = some (.deferred (some [])))
    (fun ρ pre A => ∃ c, Ix c ρ pre A ∧ A.heap[d + 1]? = some (lp .done (some c)) ∧ A.heap[d]? = some (.deferred (some [])))
    ρ V (hb0.trans (hbV.mono hb0.size)) hρ
    (fun ρ s A B row hs h hr => ⟨hI ρ s A B row hs.1 h (up (B := B) hr), grown_far h (far _ (Nat.le_refl _) hr) hs.2.1, grown_far h (far _ (by omega) hr) hs.2.2⟩)
    (fun ρ s A B row ⟨c, q1, q2, q3⟩ h hr => ⟨c, hIx c ρ s A B row q1 h (up (B := B) hr), grown_far h (far _ (Nat.le_refl _) hr) q2, grown_far h (far _ (by omega) hr) q3⟩)
    (fun ρ pre A h => hf ρ pre A h.1)
    ?_ ⟨?_, vl, vd⟩).mono ?_
  · rintro m' ρ1 pre x A ⟨hi, al, ad⟩ hlen
    have alt : d + 1 < A.heap.size := (Array.getElem?_eq_some_iff.1 al).1
    have al' := al
    rw [hlp] at al'
    obtain ⟨A2, hA2⟩ : ∃ A2, A.putObj (d + 1) (lp .busy none) = A2 := ⟨_, rfl⟩
    have hA2s : A2.heap.size = A.heap.size := by rw [← hA2]; simp
    have hA2o : ∀ k, k ≠ d + 1 → A2.heap[k]? = A.heap[k]? := fun k hk => by rw [← hA2]; exact World.putObj_heap_other hk
    have bl : A2.heap[d + 1]? = some (lp .busy none) := by rw [← hA2]; exact World.putObj_heap_same alt
    have bd : A2.heap[d]? = some (.deferred (some [])) := (hA2o d (by omega)).trans ad
    have hi2 : I ρ1 pre A2 := by rw [← hA2]; exact (hI ρ1).putObj _ hi (by omega) al (ncl _ _).1
    have hy := run_yield (P := P) (args := encs x) al' (by exact hps x)
    have hbg := run_beginRound (P := P) al' rfl
    refine ⟨fn, _, assign, body, hy, roundIn_of_wpIn trivial (hassign _ _ x A _ ⟨A2, by rw [← hA2, hlp]; exact hbg, ?_⟩)⟩
    refine wpIn_mono (hbody _ _ ρ1 pre x A2 hi2 hlen) ?_
    have fin : ∀ (j : Option Code) (C : World), KeepsOthers A2 C → C.heap[d + 1]? = some (lp .busy none) ∧
        (Instr.endRound (d + 1) j).run P C = .ok (.bool j.isNone) (C.putObj (d + 1) (lp (if j.isNone then .ready else .done) j)) ∧
        (C.putObj (d + 1) (lp (if j.isNone then .ready else .done) j)).heap[d + 1]? = some (lp (if j.isNone then .ready else .done) j) ∧ (C.putObj (d + 1) (lp (if j.isNone then .ready else .done) j)).heap[d]? = some (.deferred (some [])) ∧
        KeepsFrom V.heap.size A (C.putObj (d + 1) (lp (if j.isNone then .ready else .done) j)) := fun j C hk => by
      have c1 := hk.same _ _ bl (ncl _ _).1
      refine ⟨c1, ?_, World.putObj_heap_same (Array.getElem?_eq_some_iff.1 c1).1, (World.putObj_heap_other (by omega)).trans (hk.same _ _ bd rfl), ?_, ?_⟩
      · rw [hlp] at c1 ⊢
        exact run_endRound (P := P) j c1
      · have := hk.size; simp; omega
      · intro k o hk2 hk3 ho
        rw [World.putObj_heap_other (by omega)]
        exact hk.same k o ((hA2o k (by omega)).trans hk3) ho
    have out : ∀ (c : Code) (C : World), KeepsOthers A2 C → (∃ ρ', Ix c ρ' (pre ++ [x]) C) → ∃ v C', (Instr.endRound (d + 1) (some c)).run P C = .ok v C' ∧ KeepsFrom V.heap.size A C' ∧ ((∃ ρ', Ending.returned v = .returned (.bool true) ∧ Lab ρ1 A ρ' C' ∧ I ρ' (pre ++ [x]) C' ∧ C'.heap[d + 1]? = some (lp .ready none) ∧ C'.heap[d]? = some (.deferred (some []))) ∨ (∃ ρ', Ending.returned v = .returned (.bool false) ∧ ∃ c, Ix c ρ' (pre ++ [x]) C' ∧ C'.heap[d + 1]? = some (lp .done (some c)) ∧ C'.heap[d]? = some (.deferred (some [])))) := fun c C hk ⟨ρ', hx⟩ => by
      obtain ⟨c1, c2, c3, c4, c5⟩ := fin (some c) C hk
      exact ⟨_, _, c2, c5, .inr ⟨ρ', rfl, c, (hIx c ρ').putObj _ hx (by omega) c1 (ncl _ _).1, c3, c4⟩⟩
    intro e _ C hp
    cases e with
    | normal =>
      obtain ⟨hk, ρ', hL, hi3⟩ := hp
      obtain ⟨c1, c2, c3, c4, c5⟩ := fin none C hk
      refine ⟨_, _, c2, c5, .inl ⟨ρ', rfl, ⟨by have := hL.size; simp; omega, fun k hk => hL.agree k (by omega), fun k hk1 hk2 => ?_⟩, (hI ρ').putObj _ hi3 (by omega) c1 (ncl _ _).1, c3, c4⟩⟩
      by_cases e : k = d + 1
      · subst e; rw [c3, al]; rfl
      · rw [World.putObj_heap_other e, hL.block k (by omega) hk2, hA2o k e]
    | ret => exact out _ C hp.1 hp.2
    | exit id => exact out _ C hp.1 hp.2
    | goto t => exact out _ C hp.1 hp.2
    | panic ch => exact hp.elim
    | outgrown => exact hp.elim
  · rw [← hV]; exact (hI ρ).alloc _ ((hI ρ).alloc _ h0)
  · rintro e C ⟨⟨v, rfl⟩, ⟨xs, ρ1, hS, hi, cl, cd⟩ | ⟨pre, ρ1, hSp, c, hx, cl, cd⟩⟩
    · have cl' := cl
      rw [hlp] at cl'
      exact ⟨none, _, run_endLoop (P := P) cl' (by simp), hdone d xs ρ1 _ (by omega) hS ((hI ρ1).putObj _ hi (by omega) cl (ncl _ _).1) ((World.putObj_heap_other (by omega)).trans cd)⟩
    · have cl' := cl
      rw [hlp] at cl'
      exact ⟨some c, _, run_endLoop (P := P) cl' (by simp), hstop d c pre ρ1 _ (by omega) hSp ((hIx c ρ1).putObj _ hx (by omega) cl (ncl _ _).1) ((World.putObj_heap_other (by omega)).trans cd)⟩
end

/-- Scan's function, so. -/
theorem scan_r {n : Nat} {ρ₀ : Nat → Nat} {fr to : ByteArray} {w : World} {bx bf bt xb : Nat} {tp : Option Addr} {l : List KV} (hf : fr.size ≤ 9223372036854775807)
    (cx : w.cell? ⟨bx, 0, none⟩ = some (.pointer (some ⟨xb, 0, none⟩))) (cf : w.cell? ⟨bf, 0, none⟩ = some (.string fr)) (ct : w.cell? ⟨bt, 0, none⟩ = some (.string to)) (ci : w.cell? ⟨xb, 0, none⟩ = some (.pointer tp)) (hT : TreeN (fun k => ρ₀ k = 0 ∧ k < w.heap.size) n w tp l) :
    SeqR (α := Ran (rng fr.data.toList to.data.toList l)) Tryz.prog 42 #[.pointer (some ⟨bx, 0, none⟩), .pointer (some ⟨bf, 0, none⟩), .pointer (some ⟨bt, 0, none⟩)] encR (fun ys => ys = (rng fr.data.toList to.data.toList l).attach) (fun pre => pre <+: (rng fr.data.toList to.data.toList l).attach) (rng fr.data.toList to.data.toList l).attach.length ρ₀ w := by
  intro m lb J Jx ρ W hb hρ hJ hJx hfr hY h0
  refine (scan_stops (n := n) (m := m) hf (fun k h => h.2) cx cf ct ci hT lb (fun pre A => ∃ ρ', Lab ρ W ρ' A ∧ J ρ' pre A) (fun pre A => ∃ ρ', Jx ρ' pre A) W hb ?_ ?_ ?_ ⟨ρ, Lab.refl _ _, h0⟩).mono ?_
  · rintro s A B row ⟨ρ', hL, hs⟩ hg hr
    refine ⟨ρ', ⟨Nat.le_trans hL.size hg.size, hL.agree, fun k hk hk0 => (hg.block k (Nat.lt_of_lt_of_le hk hL.size) (fun e => ?_)).trans (hL.block k hk hk0)⟩, hJ ρ' s A B row hs hg fun r e => by obtain ⟨h1, o, h2, h3⟩ := hr r e; exact ⟨h1, o, h2, Obj.not_cells_of_walk h3⟩⟩
    have := (hr k e.symm).1
    omega
  · rintro s A B row ⟨ρ', hs⟩ hg hr
    exact ⟨ρ', hJx ρ' s A B row hs hg fun r e => by obtain ⟨h1, o, h2, h3⟩ := hr r e; exact ⟨h1, o, h2, Obj.not_cells_of_walk h3⟩⟩
  · rintro pre x A ⟨ρ', hL, hs⟩ hlen
    refine YieldAt.mono (hY _ ρ' pre x A hs hlen) ?_
    rintro e B ⟨_, ⟨ρ2, h1, h2, h3⟩ | ⟨ρ2, h1, h2⟩⟩
    · refine .inl ⟨h1, ⟨ρ2, hL.trans h2, h3⟩, fun k hk => h2.block k ?_ ?_, h2.size⟩
      · exact Nat.lt_of_lt_of_le hk.2 (Nat.le_trans hb.size hL.size)
      · rw [hL.agree k (Nat.lt_of_lt_of_le hk.2 hb.size), hρ k hk.2]; exact hk.1
    · exact .inr ⟨h1, ρ2, h2⟩
  · rintro e B ⟨hv, ⟨xs, h1, ρ', _, h2⟩ | ⟨pre, h1, ρ', h2⟩⟩
    · exact ⟨hv, .inl ⟨xs, ρ', h1, h2⟩⟩
    · exact ⟨hv, .inr ⟨pre, ρ', h1, h2⟩⟩
end

section
open Go.RowKit

def hasP (p k : List UInt8) : Bool := Lib.hasPrefix k p
theorem hasP_iff {p k : List UInt8} : hasP p k = true ↔ p <+: k := List.isPrefixOf_iff_prefix
def pfx (p : List UInt8) (l : List KV) : List KV := l.filter fun e => hasP p e.1
theorem pre_ge {p k : List UInt8} (h : p <+: k) : ¬ klt k p := by
  rcases pre_le h with rfl | h2
  · exact klt_irrefl _
  · exact klt_asymm h2
/-- What is not ahead of p and does not begin so is behind all that does. -/
theorem pfx_ahead : ∀ {p e f : List UInt8}, ¬ klt e p → ¬ p <+: e → p <+: f → klt f e
  | [], e, f, _, h2, _ => absurd List.nil_prefix h2
  | x :: p, [], f, h1, _, _ => absurd (klt_nil_left x p) h1
  | x :: p, y :: e, f, h1, h2, ⟨r, hr⟩ => by
    subst hr
    rw [List.cons_append, klt_cons]
    rw [klt_cons] at h1
    rcases u8_tri' x y with h | h | h
    · exact .inl h
    · subst h
      exact .inr ⟨rfl, pfx_ahead (fun h3 => h1 (.inr ⟨rfl, h3⟩)) (fun h3 => h2 (List.cons_prefix_cons.mpr ⟨rfl, h3⟩)) (List.prefix_append _ _)⟩
    · exact absurd (.inl h) h1
where
  u8_tri' (x y : UInt8) : x < y ∨ x = y ∨ y < x := by
    rcases Nat.lt_trichotomy x.toNat y.toNat with h | h | h
    · exact .inl h
    · exact .inr (.inl (UInt8.toNat_inj.mp h))
    · exact .inr (.inr h)
theorem pfx_rng (p : List UInt8) (l : List KV) : pfx p l = pfx p (rng p [] l) := by
  unfold pfx rng
  rw [List.filter_filter]
  congr 1
  funext e
  cases h : hasP p e.1 with
  | false => rfl
  | true =>
    have := (inR_iff (fr := p) (to := []) (k := e.1)).mpr ⟨pre_ge (hasP_iff.mp h), .inl rfl⟩
    rw [this]; rfl
theorem pfx_all {p : List UInt8} {l : List KV} (h : ∀ e ∈ l, hasP p e.1 = true) : pfx p l = l := List.filter_eq_self.mpr h
theorem pfx_begin {p : List UInt8} {xs l : List KV} (h : ∀ e ∈ xs, hasP p e.1 = true) (hx : xs <+: l) : xs <+: pfx p l := by
  obtain ⟨t, rfl⟩ := hx
  unfold pfx
  rw [List.filter_append]
  have : xs.filter (fun e => hasP p e.1) = xs := pfx_all h
  rw [this]
  exact List.prefix_append _ _
theorem pfx_stop {p : List UInt8} {xs l : List KV} {e : KV} (hs : Srt l) (hl : ∀ e ∈ l, ¬ klt e.1 p) (h : ∀ e ∈ xs, hasP p e.1 = true) (he : hasP p e.1 = false) (hx : xs ++ [e] <+: l) : pfx p l = xs := by
  obtain ⟨t, rfl⟩ := hx
  have h1 : xs.filter (fun e => hasP p e.1) = xs := pfx_all h
  have h2 : t.filter (fun e => hasP p e.1) = [] := List.filter_eq_nil_iff.mpr fun f hf h3 => by
    have h4 : klt e.1 f.1 := (List.pairwise_append.mp hs).2.2 e (by simp) f hf
    have h5 := pfx_ahead (hl e (by simp)) (fun h6 => by rw [hasP_iff.mpr h6] at he; cases he) (hasP_iff.mp h3)
    exact klt_asymm h4 h5
  unfold pfx
  rw [List.filter_append, List.filter_append, h1, h2]
  simp [he]
section
variable {R R' : List KV}
theorem vals_inj : ∀ {a b : List (Ran R)}, a.map (·.1) = b.map (·.1) → a = b
  | [], [], _ => rfl
  | [], _ :: _, h => by simp at h
  | _ :: _, [], h => by simp at h
  | x :: a, y :: b, h => by
    simp only [List.map_cons, List.cons.injEq] at h
    rw [Subtype.ext h.1, vals_inj h.2]
theorem attach_of {pre : List (Ran R)} (h : pre.map (·.1) = R) : pre = R.attach :=
  vals_inj (h.trans (List.attach_map_subtype_val R).symm)
theorem attach_begin {pre : List (Ran R)} (h : pre.map (·.1) <+: R) : pre <+: R.attach := by
  have : pre = R.attach.take pre.length := vals_inj (by
    show pre.map (·.1) = (R.attach.take pre.length).map Subtype.val
    rw [List.map_take, List.attach_map_subtype_val]
    have := List.prefix_iff_eq_take.mp h
    rw [List.length_map] at this
    exact this)
  rw [this]
  exact List.take_prefix _ _
theorem begin_map {pre : List (Ran R)} (h : pre <+: R.attach) : pre.map (·.1) <+: R := by
  have := h.map (·.1)
  rw [List.attach_map_subtype_val] at this
  exact this
end
end

section
open Go.RowKit Go.Shelf
attribute [local go_sem ↓] Go.wp_at_zero Go.wp_at_succ
attribute [local go_sem] Oper.semAt_some

theorem RepN.keys {S : Nat → Prop} {w : World} : ∀ {n b : Nat} {l : List KV}, RepN S n w b l → ∀ e ∈ l, e.1.length ≤ 64
  | 0, _, _, h => h.elim
  | n + 1, b, l, ⟨pre, vp, bv, ov, cs, xs, gs, hN, hO, hR, hl, hC, hs⟩ => fun e he => by
    rcases hs.mem.mp he with ⟨h1, _⟩ | ⟨i, g, h1, h2⟩
    · have := hN.short
      rw [h1, ← Lib.size_eq]; exact this
    · have hi := (List.getElem?_eq_some_iff.mp h1).1
      exact RepN.keys (hC i _ g (List.getElem?_eq_getElem (by omega)) h1) e h2
theorem TreeN.keys {S : Nat → Prop} {w : World} {n : Nat} {tp : Option Addr} {l : List KV} (h : TreeN S n w tp l) : ∀ e ∈ l, e.1.length ≤ 64 := by
  rcases h with ⟨_, rfl⟩ | ⟨t, _, h⟩
  · intro e he; cases he
  · exact h.keys
/-- Prefix: the function, and the two boxes that it holds. -/
theorem prefix_any (xb : Nat) (p : ByteArray) (w : World) : Calls Tryz.prog 28 #[.pointer (some ⟨xb, 0, none⟩), .string p] w fun e w' => e = .returned (.func (.func 44) #[] #[.pointer (some ⟨w.heap.size, 0, none⟩), .pointer (some ⟨w.heap.size + 1, 0, none⟩)]) ∧
    w'.cell? ⟨w.heap.size, 0, none⟩ = some (.pointer (some ⟨xb, 0, none⟩)) ∧ w'.cell? ⟨w.heap.size + 1, 0, none⟩ = some (.string p) ∧ w.heap.size + 1 < w'.heap.size ∧ Below w.heap.size w w' := by
  go_enter Tryz.func28, Tryz.ntmps28
  go_wp2
  go_ret
  have c1 : ∀ (u : World) (v : Value) (t : TypeId), (u.alloc (.cells #[v] t)).cell? ⟨u.heap.size, 0, none⟩ = some v := fun u v t => by
    have := heap_alloc_new u (.cells #[v] t)
    unfold World.cell?
    rw [this]
    rfl
  have b1 : ∀ (u : World) (o : Obj), Below u.heap.size u (u.alloc o) := fun u o => (Below.refl _ _).alloc (Nat.le_refl _) _
  refine ⟨rfl, cell_later (b1 _ _) (c1 w _ _), ?_, ?_, ?_⟩
  · have := c1 (w.alloc (.cells #[.pointer (some ⟨xb, 0, none⟩)] 31)) (.string p) 9
    rw [World.size_alloc] at this
    exact this
  · simp
  · exact ((Below.refl _ _).alloc (Nat.le_refl _) _).alloc (by simp) _

set_option maxRecDepth 100000 in
set_option maxHeartbeats 4000000 in
theorem prefix_r {n : Nat} {ρ₀ : Nat → Nat} {p : ByteArray} {w : World} {bx bp xb : Nat} {tp : Option Addr} {l : List KV} (hp : p.size ≤ 9223372036854775807)
    (cx : w.cell? ⟨bx, 0, none⟩ = some (.pointer (some ⟨xb, 0, none⟩))) (cp : w.cell? ⟨bp, 0, none⟩ = some (.string p)) (hbp : ρ₀ bp = 0) (ci : w.cell? ⟨xb, 0, none⟩ = some (.pointer tp)) (hT : TreeN (fun k => ρ₀ k = 0 ∧ k < w.heap.size) n w tp l) :
    SeqR (α := Ran (pfx p.data.toList l)) Tryz.prog 44 #[.pointer (some ⟨bx, 0, none⟩), .pointer (some ⟨bp, 0, none⟩)] encR (fun ys => ys = (pfx p.data.toList l).attach) (fun pre => pre <+: (pfx p.data.toList l).attach) (rng p.data.toList [] l).attach.length ρ₀ w := by
  intro m lb J Jx ρ W hb hρ hJ hJx hfr hY h0
  refine callsIn_wide.2 ?_
  refine (callsIn_wide (n := 5)).1 ?_
  refine callsIn_of_wp_marks Tryz.func44 rfl trivial ?_ rfl
  refine wpIn_wide.2 ?_
  simp only [Tryz.ntmps44, List.size_toArray, List.length_cons, List.length_nil, Nat.reduceAdd, Nat.reduceSub, Array.replicate_succ, Array.replicate_zero, List.push_toArray, List.append_toArray, List.nil_append, List.cons_append]
  have b1 : ∀ ob, Below W.heap.size W (W.alloc ob) := fun ob => below_alloc W ob
  have cx1 := fun ob => cell_later (b1 ob) (cell_later hb cx)
  have cp1 := fun ob => cell_later (b1 ob) (cell_later hb cp)
  go_wp2_with ((go_at_call 27; refine (scan_any _ _ _ _).mono ?_; rintro e W2 ⟨rfl, d0, d1, d2, hsz2, hb2⟩))
  have hys : W.heap.size < W2.heap.size := by simp at hsz2; omega
  have hbW2 : Below W.heap.size W W2 := (b1 _).trans (hb2.mono (b1 _).size)
  have cy : W2.cell? ⟨W.heap.size, 0, none⟩ = some (.func (.yield lb) #[] #[]) := cell_later hb2 (by have := heap_alloc_new W (.cells #[.func (.yield lb) #[] #[]] 50); unfold World.cell?; rw [this]; rfl)
  have cpw := cell_later hbW2 (cell_later hb cp)
  have hbpl : bp < w.heap.size := World.block_lt_of_cell? _ _ cp
  simp only [World.size_alloc] at d0 d1 d2
  obtain ⟨by', hby⟩ : ∃ b, W.heap.size = b := ⟨_, rfl⟩
  have hρy : ρ by' = 0 := hfr ρ [] W h0 _ (by omega)
  have hbw2 : Below w.heap.size w W2 := hb.trans (hbW2.mono hb.size)
  have hTs : Srt l := srt_of hT
  have hkeys : ∀ e ∈ l, e.1.length ≤ 64 := hT.keys
  have HStop : Hid (SeqStopsK (α := Ran (rng p.data.toList [] l)) Fence.wide (5 - 1) Tryz.prog 42 #[.pointer (some ⟨W.heap.size + 1, 0, none⟩), .pointer (some ⟨W.heap.size + 1 + 1, 0, none⟩), .pointer (some ⟨W.heap.size + 1 + 2, 0, none⟩)] encR (KpS fun k => ρ₀ k = 0 ∧ k < w.heap.size) (fun ys => ys = (rng p.data.toList [] l).attach) (fun pre => pre <+: (rng p.data.toList [] l).attach) (rng p.data.toList [] l).attach.length W2) :=
    scan_stops (n := n) (tp := tp) (to := ⟨#[]⟩) hp (fun k h => Nat.lt_of_lt_of_le h.2 hbw2.size) d0 d1 d2 (cell_later hbw2 ci) (hT.on hbw2)
  rw [hby] at HStop hys hbW2 cy ⊢
  have hJ' : ∀ ρ, OwnFrom by' (J ρ) := by rw [← hby]; exact hJ
  have hJx' : ∀ ρ, OwnFrom by' (Jx ρ) := by rw [← hby]; exact hJx
  have hY' : ∀ m' ρ pre (x : Ran (pfx p.data.toList l)) A, J ρ pre A → pre.length < (rng p.data.toList [] l).attach.length → YieldAt Fence.wide m' Tryz.prog lb (encR x) A fun e B => KeepsFrom by' A B ∧ ((∃ ρ', e = .returned (.bool true) ∧ Lab ρ A ρ' B ∧ J ρ' (pre ++ [x]) B) ∨ (∃ ρ', e = .returned (.bool false) ∧ Jx ρ' (pre ++ [x]) B)) := by rw [← hby]; exact hY
  clear d0 d1 d2 cx1 cp1 b1 hsz2 hb2
  generalize hact : ({ tmps := _, defers := _ } : Act) = a0
  refine (wpIn_wide (n := 5)).1 ?_
  refine wpIn_rangeFunc_ownG rfl (by decide) (gf := 42) (lb := #[.pointer (some ⟨by' + 1, 0, none⟩), .pointer (some ⟨by' + 1 + 1, 0, none⟩), .pointer (some ⟨by' + 1 + 2, 0, none⟩)]) (by rw [← hact]; rfl) trivial (enters_of Tryz.func42 (by kernel_rfl) rfl)
    HStop.out kpS_t (kpS_b (fun k h => h.2) hbw2.size) (Below.refl _ _) (fun _ => rfl)
    (fun pre A => Hid (∃ ρ1 pre', Lab ρ W ρ1 A ∧ J ρ1 pre' A ∧ pre'.map (·.1) = pre.map (·.1) ∧ A.cell? ⟨bp, 0, none⟩ = some (.string p) ∧ A.cell? ⟨by', 0, none⟩ = some (.func (.yield lb) #[] #[]) ∧ ρ1 by' = 0))
    (fun c pre A => Hid (c = .ret ∧ ((∃ ρ1 pre' init x, pre = init ++ [x] ∧ J ρ1 pre' A ∧ pre'.map (·.1) = init.map (·.1) ∧ hasP p.data.toList x.1.1 = false) ∨ (∃ ρ1 pre', Jx ρ1 pre' A ∧ pre'.map (·.1) = pre.map (·.1)))))
    ?own ?ownx ?start
    (fun x => { tmps := (((a0.tmps.setIfInBounds 9 (.string ⟨x.1.1.toArray⟩)).setIfInBounds 10 (.int .i64 x.1.2)).setIfInBounds 4 (.string ⟨x.1.1.toArray⟩)).setIfInBounds 5 (.int .i64 x.1.2), defers := [] }) ?assign ?body ?done ?stop
  case own =>
    rintro pre A B row ⟨ρ1, pre', h1, h2, h3, h4, h5, h6⟩ hg hr
    have hnc : ∀ r, row = some r → ∃ o : Obj, A.heap[r]? = some o ∧ o.isCells = false := fun r e => (hr r e).2
    refine ⟨ρ1, pre', ⟨Nat.le_trans h1.size hg.size, h1.agree, fun k hk hk0 => (hg.block k (Nat.lt_of_lt_of_le hk h1.size) (fun e => ?_)).trans (h1.block k hk hk0)⟩, hJ' ρ1 pre' A B row h2 hg (fun r e => ⟨by have := (hr r e).1; omega, (hr r e).2⟩), h3, cell_kept h4 hg hnc, cell_kept h5 hg hnc, h6⟩
    have := (hr k e.symm).1
    omega
  case ownx =>
    rintro c pre A B row ⟨hc, h⟩ hg hr
    have hr' : ∀ r, row = some r → by' ≤ r ∧ ∃ o : Obj, A.heap[r]? = some o ∧ o.isCells = false := fun r e => ⟨by have := (hr r e).1; omega, (hr r e).2⟩
    refine ⟨hc, ?_⟩
    rcases h with ⟨ρ1, pre', init, x, h1, h2, h3⟩ | ⟨ρ1, pre', h1, h2⟩
    · exact .inl ⟨ρ1, pre', init, x, h1, hJ' ρ1 pre' A B row h2 hg hr', h3⟩
    · exact .inr ⟨ρ1, pre', hJx' ρ1 pre' A B row h1 hg hr', h2⟩
  case start =>
    refine ⟨ρ, [], Lab.below (by rw [hby]; exact hbW2), ?_, rfl, cpw, cy, hρy⟩
    exact hJ' ρ [] W W2 none h0 ⟨hbW2.os, hbW2.tape, hbW2.output, hbW2.size, fun k hk _ => hbW2.block k (by omega)⟩ (fun r e => by cases e)
  case assign =>
    intro l' x A K hK
    rw [← hact] at hK ⊢
    simp [encR] at hK ⊢
    gi_wp2
    exact hK
  case body =>
    intro l' pre x A hI hlen
    rw [← hact]
    obtain ⟨ρ1, pre', h1, h2, h3, h4, h5, h6⟩ := hI.out
    have hxl := (mem_rng.mp x.2).1
    obtain ⟨kk, hkk⟩ : ∃ kk : ByteArray, (⟨x.1.1.toArray⟩ : ByteArray) = kk := ⟨_, rfl⟩
    have hkd : kk.data.toList = x.1.1 := by rw [← hkk]
    have hksz : kk.size ≤ 64 := by
      have := hkeys x.1 hxl
      rw [← hkd, ← Lib.size_eq] at this
      exact this
    obtain ⟨vv, hvv⟩ : ∃ vv, x.1.2 = vv := ⟨_, rfl⟩
    have HP : Hid (∀ A, Calls Tryz.prog 45 #[.string kk, .string p] A fun e A' => e = .returned (.bool (hasP p.data.toList x.1.1)) ∧ A' = A) := fun A => by
      have := hasPrefix_any kk p A (by unfold maxLen; omega) (by unfold maxLen; omega)
      rw [hkd] at this
      exact this
    cases hh : hasP p.data.toList x.1.1 with
    | false =>
      rw [hh] at HP
      have HX : Hid (Hid (Code.ret = .ret ∧ ((∃ ρ1 pre' init y, pre ++ [x] = init ++ [y] ∧ J ρ1 pre' A ∧ pre'.map (·.1) = init.map (·.1) ∧ hasP p.data.toList y.1.1 = false) ∨ (∃ ρ1 pre', Jx ρ1 pre' A ∧ pre'.map (·.1) = (pre ++ [x]).map (·.1))))) := ⟨rfl, .inl ⟨ρ1, pre', pre, x, rfl, h2, h3, hh⟩⟩
      clear hI h1 h2 h3 h6
      simp only [hkk, hvv]
      gi_wp2_with (refine ⟨trivial, ?_⟩; gi_at_call 45; refine (CallsIn.inRound l' (callsIn_wide.2 (HP.out _))).mono ?_; rintro e A' ⟨rfl, hA'⟩; subst hA')
      refine ⟨fun f (h : (none : Option FuncId) = some f) => (nomatch h), ?_⟩
      gi_wp2
      exact ⟨KeepsFrom.refl _ _, ⟨rfl, HX.out.out.2⟩⟩
    | true =>
      rw [hh] at HP
      have hmem : x.1 ∈ pfx p.data.toList l := List.mem_filter.mpr ⟨hxl, hh⟩
      have hlen' : pre'.length < (rng p.data.toList [] l).attach.length := by
        have : pre'.length = pre.length := by have := congrArg List.length h3; simpa using this
        omega
      have hYx := hY' 2 ρ1 pre' ⟨x.1, hmem⟩ A h2 hlen'
      have henc : encR (⟨x.1, hmem⟩ : Ran (pfx p.data.toList l)) = #[.string kk, .int .i64 vv] := by unfold encR; rw [← hkk, ← hvv]
      rw [henc] at hYx
      have hYy : YieldAt Fence.wide 2 Tryz.prog lb #[.string kk, .int .i64 vv] A fun e B => ∃ b, e = .returned (.bool b) ∧ Hid (KeepsFrom W2.heap.size A B ∧ ((b = true ∧ KpS (fun k => ρ₀ k = 0 ∧ k < w.heap.size) A B ∧ Hid (∃ ρ1 pre', Lab ρ W ρ1 B ∧ J ρ1 pre' B ∧ pre'.map (·.1) = (pre ++ [x]).map (·.1) ∧ B.cell? ⟨bp, 0, none⟩ = some (.string p) ∧ B.cell? ⟨by', 0, none⟩ = some (.func (.yield lb) #[] #[]) ∧ ρ1 by' = 0)) ∨ (b = false ∧ Hid (Code.ret = .ret ∧ ((∃ ρ1 pre' init y, pre ++ [x] = init ++ [y] ∧ J ρ1 pre' B ∧ pre'.map (·.1) = init.map (·.1) ∧ hasP p.data.toList y.1.1 = false) ∨ (∃ ρ1 pre', Jx ρ1 pre' B ∧ pre'.map (·.1) = (pre ++ [x]).map (·.1))))))) := by
        refine YieldAt.mono hYx ?_
        rintro e B ⟨hkf, ⟨ρ2, he, hL, hj⟩ | ⟨ρ2, he, hj⟩⟩
        · have hbl : ∀ k, ρ1 k = 0 → k < A.heap.size → B.heap[k]? = A.heap[k]? := fun k hk1 hk2 => hL.block k hk2 hk1
          refine ⟨true, he, ⟨hkf.size, fun k o hk => hkf.same k o (by omega)⟩, .inl ⟨rfl, ⟨fun k hk => hbl k ?_ ?_, hL.size⟩, ρ2, _, h1.trans hL, hj, ?_, ?_, ?_, ?_⟩⟩
          · rw [h1.agree k (Nat.lt_of_lt_of_le hk.2 hb.size), hρ k hk.2]; exact hk.1
          · exact Nat.lt_of_lt_of_le hk.2 (Nat.le_trans hb.size h1.size)
          · rw [List.map_append, List.map_append, h3]; rfl
          · exact (World.cell?_of_block (w := A) (a := ⟨bp, 0, none⟩) (hbl bp (by rw [h1.agree bp (Nat.lt_of_lt_of_le hbpl hb.size), hρ bp hbpl]; exact hbp) (Nat.lt_of_lt_of_le hbpl (Nat.le_trans hb.size h1.size)))).trans h4
          · exact (World.cell?_of_block (w := A) (a := ⟨by', 0, none⟩) (hbl by' h6 (World.block_lt_of_cell? _ _ h5))).trans h5
          · exact (hL.agree by' (World.block_lt_of_cell? _ _ h5)).trans h6
        · refine ⟨false, he, ⟨hkf.size, fun k o hk => hkf.same k o (by omega)⟩, .inr ⟨rfl, rfl, .inr ⟨ρ2, _, hj, ?_⟩⟩⟩
          rw [List.map_append, List.map_append, h3]; rfl
      obtain ⟨fn, tmps, assign, body, hy, hR⟩ := hYy
      have HR : Hid (RoundIn (Fence.wide.inRound l') 2 Tryz.prog lb fn tmps assign body A fun e B => ∃ b, e = .returned (.bool b) ∧ Hid (KeepsFrom W2.heap.size A B ∧ ((b = true ∧ KpS (fun k => ρ₀ k = 0 ∧ k < w.heap.size) A B ∧ Hid (∃ ρ1 pre', Lab ρ W ρ1 B ∧ J ρ1 pre' B ∧ pre'.map (·.1) = (pre ++ [x]).map (·.1) ∧ B.cell? ⟨bp, 0, none⟩ = some (.string p) ∧ B.cell? ⟨by', 0, none⟩ = some (.func (.yield lb) #[] #[]) ∧ ρ1 by' = 0)) ∨ (b = false ∧ Hid (Code.ret = .ret ∧ ((∃ ρ1 pre' init y, pre ++ [x] = init ++ [y] ∧ J ρ1 pre' B ∧ pre'.map (·.1) = init.map (·.1) ∧ hasP p.data.toList y.1.1 = false) ∨ (∃ ρ1 pre', Jx ρ1 pre' B ∧ pre'.map (·.1) = (pre ++ [x]).map (·.1)))))))) := hR
      clear hI h1 h2 h3 h6 hYx hR
      simp only [hkk, hvv]
      gi_wp2_with (first
        | (refine ⟨trivial, ?_⟩; gi_at_call 45; refine (CallsIn.inRound l' (callsIn_wide.2 (HP.out _))).mono ?_; rintro e A' ⟨rfl, hA'⟩; subst hA')
        | (refine HR.out.mono ?_; rintro e B ⟨b, rfl, HB⟩; cases b))
      · rcases HB.out with ⟨hkf, ⟨h, _⟩ | ⟨_, h⟩⟩
        · cases h
        · exact ⟨hkf, ⟨rfl, h.out.2⟩⟩
      · rcases HB.out with ⟨hkf, ⟨_, h⟩ | ⟨h, _⟩⟩
        · exact ⟨hkf, h⟩
        · cases h
  case done =>
    rintro D ys A hD rfl hI hK
    rw [← hact]
    obtain ⟨ρ1, pre', h1, h2, h3, _⟩ := hI.out
    rw [List.attach_map_subtype_val] at h3
    have hall : ∀ e ∈ rng p.data.toList [] l, hasP p.data.toList e.1 = true := fun e he => by
      rw [← h3] at he
      obtain ⟨y, _, rfl⟩ := List.mem_map.mp he
      exact (List.mem_filter.mp y.2).2
    have e1 : pre' = (pfx p.data.toList l).attach := attach_of (by rw [h3, pfx_rng, pfx_all hall])
    have HE : Hid (J ρ1 (pfx p.data.toList l).attach (A.putObj D (.deferred none))) := by
      rw [e1] at h2
      exact (hJ' ρ1).putObj _ h2 (by omega) hK rfl
    have hKt := run_takeDeferred (P := Tryz.prog) hK
    show LeavesInM _ _ _ _ _ _ _ _ _
    refine ⟨by simp, .inl ⟨_, _, rfl, hKt, ?_⟩⟩
    refine ⟨.tuple #[], ?_, ⟨_, rfl⟩, .inl ⟨_, ρ1, rfl, HE.out⟩⟩
    simp [results, Tryz.f44, go_sem]
  case stop =>
    intro D c pre A hD hsp HXX hK
    obtain ⟨hc, hx⟩ := HXX.out
    subst hc
    rw [← hact]
    have HE : Hid ((∃ xs ρ', xs = (pfx p.data.toList l).attach ∧ J ρ' xs (A.putObj D (.deferred none))) ∨ ∃ q ρ', q <+: (pfx p.data.toList l).attach ∧ Jx ρ' q (A.putObj D (.deferred none))) := by
      rcases hx with ⟨ρ1, pre', init, x, hpx, h2, h3, h4⟩ | ⟨ρ1, pre', h2, h3⟩
      · refine .inl ⟨pre', ρ1, attach_of ?_, (hJ' ρ1).putObj _ h2 (by omega) hK rfl⟩
        have hbg := begin_map hsp
        rw [hpx, List.map_append] at hbg
        refine h3.trans ?_
        rw [pfx_rng]
        refine (pfx_stop (xs := init.map (·.1)) (e := x.1) (List.Pairwise.filter _ hTs) (fun e he => (mem_rng.mp he).2.1) (fun e he => ?_) h4 hbg).symm
        rw [← h3] at he
        obtain ⟨y, _, rfl⟩ := List.mem_map.mp he
        exact (List.mem_filter.mp y.2).2
      · refine .inr ⟨pre', ρ1, attach_begin ?_, (hJx' ρ1).putObj _ h2 (by omega) hK rfl⟩
        rw [h3, pfx_rng]
        refine pfx_begin (fun e he => ?_) (begin_map hsp)
        rw [← h3] at he
        obtain ⟨y, _, rfl⟩ := List.mem_map.mp he
        exact (List.mem_filter.mp y.2).2
    have hKt := run_takeDeferred (P := Tryz.prog) hK
    gi_wp2
    show LeavesInM _ _ _ _ _ _ _ _ _
    refine ⟨by simp, .inl ⟨_, _, rfl, hKt, ?_⟩⟩
    have HE2 : Hid ((∃ ρ', J ρ' (pfx p.data.toList l).attach (A.putObj D (.deferred none))) ∨ ∃ q, q <+: (pfx p.data.toList l).attach ∧ ∃ ρ', Jx ρ' q (A.putObj D (.deferred none))) := by
      rcases HE.out with ⟨_, ρ', rfl, h⟩ | ⟨q, ρ', h1, h2⟩
      · exact .inl ⟨ρ', h⟩
      · exact .inr ⟨q, h1, ρ', h2⟩
    refine ⟨.tuple #[], ?_, ⟨_, rfl⟩, HE2.out⟩
    simp [results, Tryz.f44, go_sem]
end

end Go.Proofs.YtcgjppacnhmjlaaGreat
