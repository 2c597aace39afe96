/- Ordered: the kinds and the two tuples that it makes, in memory. -/
import Derived.Test.YtcgjppacnhmjlaaDoorOrdA
import Derived.Test.YtcgjppacnhmjlaaDoorTupV
import Derived.Test.YtcgjppacnhmjlaaDoorBackMain
set_option linter.unusedVariables false
set_option linter.unusedSimpArgs false
namespace Go.Proofs.YtcgjppacnhmjlaaDoor
open Go.RowKit Go.Shelf

/-- A row of numbers that the call has made. -/
abbrev KRow (B : Nat) (w : World) (v : Value) (K : List Int) : Prop := w.ownsRow B 3 1 v K.length (intCells K)
theorem KRow.ints {B : Nat} {w : World} {ko : Option Addr} {cap : Nat} {K : List Int} (h : KRow B w (.slice ko K.length cap) K) (hne : K ≠ []) : ∃ g, ko = some ⟨g, 0, none⟩ ∧ K.length ≤ cap ∧ g < w.heap.size ∧ ∀ w', w'.heap[g]? = w.heap[g]? → IntsAt w' (.slice (some ⟨g, 0, none⟩) K.length cap) K := by
  obtain ⟨h0, h1 | ⟨g, cap', cur, h1, h2, h3, h4, h5, h6, h7⟩⟩ := h
  · exact absurd (List.length_eq_zero_iff.mp (by have := h1.1; simp only [Value.slice.injEq] at this; exact this.2.1)) hne
  · cases h1
    have hg : g < w.heap.size := (Array.getElem?_eq_some_iff.mp h3).1
    refine ⟨g, rfl, h4, hg, fun w' hw' => ⟨_, g, 0, cap, rfl, h4, fun i k hk => ⟨rfl, ?_⟩⟩⟩
    have hrow : w.ownsRow B 3 1 (.slice (some ⟨g, 0, none⟩) K.length cap) K.length (intCells K) := ⟨h0, .inr ⟨g, cap, cur, rfl, h2, h3, h4, h5, h6, h7⟩⟩
    have := rowCells hrow (j := i) (u := .int .i64 k) (by simp [intCells, hk])
    rw [show 0 + i = i by omega, ← this]
    exact World.cell?_of_block hw'
theorem KRow.snoc {B : Nat} {w w' : World} {K : List Int} {k : Int} {g cap n : Nat} (hn : n = K.length + 1) (h : w'.ownsRow B 3 1 (.slice (some ⟨g, 0, none⟩) n cap) n (intCells K ++ [.int .i64 k])) : KRow B w' (.slice (some ⟨g, 0, none⟩) (K ++ [k]).length cap) (K ++ [k]) := by
  subst hn
  show World.ownsRow _ _ _ _ _ _ _
  have e1 : (K ++ [k]).length = K.length + 1 := by simp
  have e2 : intCells (K ++ [k]) = intCells K ++ [.int .i64 k] := by simp [intCells]
  rw [e1, e2]
  exact h
theorem below_grow {B : Nat} {w0 w w' : World} {row : Option Nat} (hb : Below B w0 w) (hg : w.grownBy w' row) (hr : ∀ g, row = some g → B ≤ g) (hBw : B ≤ w.heap.size) : Below B w0 w' :=
  hb.trans ⟨hg.os, hg.tape, hg.output, hg.size, fun k hk => hg.block k (by omega) (fun e => by have := hr k e.symm; omega)⟩
theorem rowBase {w : World} {e : TypeId} {size n base g : Nat} {v : Value} {xs : List Value} (h : w.ownsRow base e size v n xs) (hg : v.ownBlock = some g) : base ≤ g := (h.lt g hg).1

theorem vals_row {B : Nat} {w : World} {xo : Option Addr} {cap : Nat} {us : List ValD} (h : w.ownsRow B 29 3 (.slice xo us.length cap) us.length (flatV us)) (hne : us ≠ []) : ∃ g, xo = some ⟨g, 0, none⟩ ∧ us.length ≤ cap ∧ g < w.heap.size ∧ ∀ w', w'.heap[g]? = w.heap[g]? → ValsAt w' (.slice (some ⟨g, 0, none⟩) us.length cap) us := by
  have h' := h
  obtain ⟨h0, h1 | ⟨g, cap', cur, h1, h2, h3, h4, h5, h6, h7⟩⟩ := h
  · exact absurd (List.length_eq_zero_iff.mp (by have := h1.1; simp only [Value.slice.injEq] at this; exact this.2.1)) hne
  · cases h1
    refine ⟨g, rfl, h4, (Array.getElem?_eq_some_iff.mp h3).1, fun w' hw' => ⟨_, g, 0, cap, rfl, h4, fun i u hu => ?_⟩⟩
    obtain ⟨a, b, c⟩ := flatV_get us i u hu
    refine ⟨rfl, ?_, ?_, ?_⟩
    · have := rowCells h' a; rw [Nat.zero_add, ← this]; exact World.cell?_of_block hw'
    · have := rowCells h' b; rw [Nat.zero_add, ← this]; exact World.cell?_of_block hw'
    · have := rowCells h' c; rw [Nat.zero_add, ← this]; exact World.cell?_of_block hw'
theorem IntsAt.cut {w : World} {g n cap : Nat} {K : List Int} (h : IntsAt w (.slice (some ⟨g, 0, none⟩) n cap) K) {j : Nat} (hj : j ≤ n) : IntsAt w (.slice (some ⟨g, 0, none⟩) j cap) (K.take j) := by
  obtain ⟨ao, kb, p, cap', e, hc, hh⟩ := h
  simp only [Value.slice.injEq] at e
  obtain ⟨rfl, rfl, rfl⟩ := e
  refine ⟨_, kb, p, cap, by simp [Nat.min_eq_left hj], by simp; omega, fun i k hk => hh i k ?_⟩
  by_cases hi : i < j
  · rwa [List.getElem?_take_of_lt hi] at hk
  · rw [List.getElem?_take_eq_none (by omega)] at hk; cases hk
theorem ValsAt.cut {w : World} {g n cap : Nat} {us : List ValD} (h : ValsAt w (.slice (some ⟨g, 0, none⟩) n cap) us) {j : Nat} (hj : j ≤ n) : ValsAt w (.slice (some ⟨g, 0, none⟩) j cap) (us.take j) := by
  obtain ⟨ao, kb, p, cap', e, hc, hh⟩ := h
  simp only [Value.slice.injEq] at e
  obtain ⟨rfl, rfl, rfl⟩ := e
  refine ⟨_, kb, p, cap, by simp [Nat.min_eq_left hj], by simp; omega, fun i k hk => hh i k ?_⟩
  by_cases hi : i < j
  · rwa [List.getElem?_take_of_lt hi] at hk
  · rw [List.getElem?_take_eq_none (by omega)] at hk; cases hk
theorem ValsAt.cell {w : World} {g n cap : Nat} {us : List ValD} (h : ValsAt w (.slice (some ⟨g, 0, none⟩) n cap) us) {i : Nat} {u : ValD} (hu : us[i]? = some u) : w.cell? ⟨g, i * 3, none⟩ = some (.int .u64 u.u) ∧ w.cell? ⟨g, i * 3 + 1, none⟩ = some (.int .i64 u.i) ∧ w.cell? ⟨g, i * 3 + 2, none⟩ = some (.string ⟨u.s.toArray⟩) := by
  obtain ⟨ao, kb, p, cap', e, _, hc⟩ := h
  cases e
  obtain ⟨e, hc⟩ := hc i u hu
  cases e
  simpa using hc
theorem fitAll_take {ks : List Int} {us : List ValD} (h : FitAll ks us) (n : Nat) : FitAll (ks.take n) (us.take n) := by
  obtain ⟨h1, h2⟩ := (fitAll_iff _ _).mp h
  refine (fitAll_iff _ _).mpr ⟨by simp [h1], fun i k u h3 h4 => ?_⟩
  by_cases hi : i < n
  · rw [List.getElem?_take_of_lt hi] at h3 h4; exact h2 i k u h3 h4
  · rw [List.getElem?_take_eq_none (by omega)] at h3; cases h3
theorem pre_ext {p q : Bs} {P Q : ByteArray} (hP : (⟨p.toArray⟩ : ByteArray) = P) (hQ : (⟨q.toArray⟩ : ByteArray) = Q) (h : Q.extract 0 P.size = P) : p <+: q := by
  have e := congrArg (fun x : ByteArray => x.data.toList) h
  simp only [Lib.extract_data] at e
  rw [← hQ, ← hP] at e
  simp at e
  exact List.prefix_iff_eq_take.mpr (by rw [← e]; simp)
theorem ext_pre {p q : Bs} {P Q : ByteArray} (hP : (⟨p.toArray⟩ : ByteArray) = P) (hQ : (⟨q.toArray⟩ : ByteArray) = Q) (h : p <+: q) : P.size ≤ Q.size ∧ Q.extract 0 P.size = P := by
  subst hP; subst hQ
  have hs : (⟨p.toArray⟩ : ByteArray).size = p.length := by show p.toArray.size = _; simp
  have hs2 : (⟨q.toArray⟩ : ByteArray).size = q.length := by show q.toArray.size = _; simp
  refine ⟨by rw [hs, hs2]; exact h.length_le, kof_ext ?_⟩
  rw [Lib.extract_data, hs]
  simp
  exact (List.prefix_iff_eq_take.mp h).symm
theorem ba_ne {A B : ByteArray} (h : ¬ A = B) : (A.toList == B.toList) = false := by
  obtain ⟨⟨l⟩⟩ := A
  obtain ⟨⟨m⟩⟩ := B
  simp at h ⊢
  exact h
theorem ba_eq {A B : ByteArray} (h : A = B) : (A.toList == B.toList) = true := by subst h; simp
theorem sep_facts {p q : Bs} {P Q : ByteArray} (hP : (⟨p.toArray⟩ : ByteArray) = P) (hQ : (⟨q.toArray⟩ : ByteArray) = Q) (h : Sep p q) : Op.bytesLess P.toList Q.toList = true ∧ Op.bytesLess Q.toList P.toList = false ∧ ¬ P = Q ∧ ¬ Q.extract 0 P.size = P ∧ ¬ P.extract 0 Q.size = Q := by
  obtain ⟨h1, h2, h3, _, h5, h6⟩ := h.less
  refine ⟨?_, ?_, ?_, fun e => h5 (pre_ext hP hQ e), fun e => h6 (pre_ext hQ hP e)⟩
  · rw [← hP, ← hQ]; simpa using h1
  · rw [← hP, ← hQ]; simpa using h2
  · intro e
    apply h3
    rw [← hP, ← hQ] at e
    simpa using congrArg (fun x : ByteArray => x.data.toList) e
/-- The value of nothing. -/
def zD : ValD := ⟨0, 0, []⟩
theorem fit_zero {k : Int} (hk : 1 ≤ k ∧ k ≤ 9) : FitV k zD := by
  have : k = 1 ∨ k = 2 ∨ k = 3 ∨ k = 4 ∨ k = 5 ∨ k = 6 ∨ k = 7 ∨ k = 8 ∨ k = 9 := by omega
  rcases this with rfl | rfl | rfl | rfl | rfl | rfl | rfl | rfl | rfl <;> simp [zD, FitV, widthOf]
theorem vB_free {w : World} {b : Nat} {v : ValD} (h : w.heap[b]? = some (vB v)) (o : Nat) : w.frozen? ⟨b, o, none⟩ = false := by
  simp [World.frozen?, h, vB]
theorem vB_set {w : World} {b : Nat} {u v : ValD} (h : w.heap[b]? = some (vB u)) : (((w.setCell ⟨b, 0, none⟩ (.int .u64 v.u)).setCell ⟨b, 1, none⟩ (.int .i64 v.i)).setCell ⟨b, 2, none⟩ (.string ⟨v.s.toArray⟩)).heap[b]? = some (vB v) := by
  have h1 := Lib.heap_setCell_same (i := 0) h (.int .u64 v.u)
  have h2 := Lib.heap_setCell_same (i := 1) h1 (.int .i64 v.i)
  have h3 := Lib.heap_setCell_same (i := 2) h2 (.string ⟨v.s.toArray⟩)
  rw [h3]
  simp [vB]
/-- Outside block b nothing has turned. -/
theorem set3_other {w : World} {b k : Nat} {x y z : Value} (h : k ≠ b) : (((w.setCell ⟨b, 0, none⟩ x).setCell ⟨b, 1, none⟩ y).setCell ⟨b, 2, none⟩ z).heap[k]? = w.heap[k]? := by
  rw [Below.heap_setCell _ _ _ _ h, Below.heap_setCell _ _ _ _ h, Below.heap_setCell _ _ _ _ h]
theorem set3_size {w : World} {b : Nat} {x y z : Value} : (((w.setCell ⟨b, 0, none⟩ x).setCell ⟨b, 1, none⟩ y).setCell ⟨b, 2, none⟩ z).heap.size = w.heap.size := by
  simp [World.setCell]
theorem fitAll_snoc {ks : List Int} {us : List ValD} {k : Int} {u : ValD} (h : FitAll (ks.take us.length) us) (hk : ks[us.length]? = some k) (hu : FitV k u) : FitAll (ks.take (us ++ [u]).length) (us ++ [u]) := by
  obtain ⟨h1, h2⟩ := (fitAll_iff _ _).mp h
  have hlt := (List.getElem?_eq_some_iff.mp hk).1
  refine (fitAll_iff _ _).mpr ⟨by simp; omega, fun i k' u' h3 h4 => ?_⟩
  rw [List.length_append, List.length_singleton] at h3
  have hi : i < us.length + 1 := by have := (List.getElem?_eq_some_iff.mp h4).1; simpa using this
  rw [List.getElem?_take_of_lt hi] at h3
  by_cases e : i = us.length
  · subst e
    rw [hk] at h3
    simp at h4
    cases h3; subst h4; exact hu
  · have hi' : i < us.length := by omega
    rw [List.getElem?_append_left hi'] at h4
    exact h2 i k' u' (by rw [List.getElem?_take_of_lt hi']; exact h3) h4

theorem new_new2 (w : World) (o p : Obj) : ((w.alloc o).alloc p).heap[w.heap.size + 1]? = some p := by have := heap_alloc_new (w.alloc o) p; simpa using this
/-- The kinds, and the two tuples so far. -/
structure OS (w wc : World) (kg : Nat) (K : List Int) (xv yv : Value) (us vs : List ValD) (wr : World) : Prop where
  below : Below w.heap.size w wr
  kin : kg < wr.heap.size
  kblk : wr.heap[kg]? = wc.heap[kg]?
  xrow : wr.ownsRow w.heap.size 29 3 xv us.length (flatV us)
  yrow : wr.ownsRow w.heap.size 29 3 yv vs.length (flatV vs)
  xk : xv.ownBlock ≠ some kg
  yk : yv.ownBlock ≠ some kg
  xy : ∀ g, xv.ownBlock = some g → yv.ownBlock ≠ some g
  fx : FitAll (K.take us.length) us
  fy : FitAll (K.take vs.length) vs
  sx : ∀ u ∈ us, u.s.length ≤ 1048576
  sy : ∀ u ∈ vs, u.s.length ≤ 1048576
section
variable {w wc wr : World} {kg : Nat} {K : List Int} {xv yv : Value} {us vs : List ValD}
theorem OS.start (hb : Below w.heap.size w wr) (hk : kg < wr.heap.size) : OS w wr kg K (.slice none 0 0) (.slice none 0 0) [] [] wr :=
  ⟨hb, hk, rfl, World.ownsRow_nil _ _ _ _, World.ownsRow_nil _ _ _ _, by simp [Value.ownBlock], by simp [Value.ownBlock], by simp [Value.ownBlock], trivial, trivial, fun u h => (by cases h), fun u h => (by cases h)⟩
/-- What made or wrote other blocks alone. -/
theorem OS.step (h : OS w wc kg K xv yv us vs wr) {w' : World} (hb : Below w.heap.size w w') (hs : wr.heap.size ≤ w'.heap.size) (ho : ∀ k, k < wr.heap.size → w'.heap[k]? = wr.heap[k]?) : OS w wc kg K xv yv us vs w' :=
  ⟨hb, by have := h.kin; omega, (ho _ h.kin).trans h.kblk, rowOn h.xrow fun g e => ho g (rowLt h.xrow e), rowOn h.yrow fun g e => ho g (rowLt h.yrow e), h.xk, h.yk, h.xy, h.fx, h.fy, h.sx, h.sy⟩
theorem OS.on (h : OS w wc kg K xv yv us vs wr) {w' : World} (hb : Below wr.heap.size wr w') : OS w wc kg K xv yv us vs w' :=
  h.step (h.below.trans (hb.mono h.below.size)) hb.size fun k hk => hb.block k hk
theorem OS.swap (h : OS w wc kg K xv yv us vs wr) : OS w wc kg K yv xv vs us wr :=
  ⟨h.below, h.kin, h.kblk, h.yrow, h.xrow, h.yk, h.xk, fun g e1 e2 => h.xy g e2 e1, h.fy, h.fx, h.sy, h.sx⟩
theorem OS.put (h : OS w wc kg K xv yv us vs wr) {w' : World} {g cap : Nat} {k : Int} {u : ValD} (hrow : w'.ownsRow w.heap.size 29 3 (.slice (some ⟨g, 0, none⟩) (us.length + 1) cap) (us.length + 1) (flatV us ++ cellsV u)) (hg : wr.grownBy w' xv.ownBlock) (hat : xv.ownBlock = some g ∨ g = wr.heap.size)
    (hk : K[us.length]? = some k) (hf : FitV k u) (hs : u.s.length ≤ 1048576) : OS w wc kg K (.slice (some ⟨g, 0, none⟩) (us.length + 1) cap) yv (us ++ [u]) vs w' := by
  have e1 : (us ++ [u]).length = us.length + 1 := by simp
  refine ⟨below_grow h.below hg (fun g' e => rowBase h.xrow e) h.below.size, by have := h.kin; have := hg.size; omega, (hg.block _ h.kin (fun e => h.xk e.symm)).trans h.kblk, ?_, rowOn h.yrow fun g' e => hg.block _ (rowLt h.yrow e) (fun e2 => h.xy g' e2.symm e), ?_, h.yk, ?_, ?_, h.fy, ?_, h.sy⟩
  · rw [e1, flatV_snoc]; exact hrow
  · intro e
    simp [Value.ownBlock] at e
    subst e
    rcases hat with hat | hat
    · exact h.xk hat
    · have := h.kin; omega
  · intro g' e
    simp [Value.ownBlock] at e
    subst e
    rcases hat with hat | hat
    · exact h.xy _ hat
    · intro e2; have := rowLt h.yrow e2; omega
  · exact fitAll_snoc h.fx hk hf
  · intro u' hu'
    simp at hu'
    rcases hu' with hu' | rfl
    · exact h.sx _ hu'
    · exact hs
end

end Go.Proofs.YtcgjppacnhmjlaaDoor
