/- Own texts: PPure, PLeafC. -/
import GoSem.Op.String
import Derived.Test.YtcgjppacnhmjlaaFmAO

section
set_option linter.unusedVariables false
set_option linter.unusedSimpArgs false
set_option linter.unusedSectionVars false
set_option linter.unusedVariables false
set_option linter.unusedSimpArgs false
namespace Go.Proofs.Ytcgjppacnhmjlaa
variable {V : Type}

/-- The order of keys as bytes. -/
def klt (a b : List UInt8) : Prop := Op.bytesLess a b = true
theorem klt_dec (a b : List UInt8) : (Op.bytesLess a b = true) = klt a b := rfl
theorem klt_nil_left (b : UInt8) (q : List UInt8) : klt [] (b :: q) := by simp [klt, Op.bytesLess]
theorem klt_nil_right (a : List UInt8) : ¬ klt a [] := by cases a <;> simp [klt, Op.bytesLess]
theorem klt_cons {a b : UInt8} {r q : List UInt8} : klt (a :: r) (b :: q) ↔ a < b ∨ (a = b ∧ klt r q) := by simp [klt, Op.bytesLess]

theorem klt_irrefl : ∀ a, ¬ klt a a
  | [] => klt_nil_right []
  | a :: r => fun h => by
    rcases klt_cons.mp h with h | ⟨_, h⟩
    · exact UInt8.lt_irrefl a h
    · exact klt_irrefl r h
theorem klt_trans : ∀ {a b c}, klt a b → klt b c → klt a c
  | _, [], _, h, _ => absurd h (klt_nil_right _)
  | _, _ :: _, [], _, h => absurd h (klt_nil_right _)
  | [], _ :: _, _ :: _, _, _ => klt_nil_left _ _
  | a :: r, b :: q, c :: s, h, k => by
    rw [klt_cons] at h k ⊢
    rcases h with h | ⟨rfl, h⟩
    · rcases k with k | ⟨rfl, k⟩
      · exact .inl (UInt8.lt_trans h k)
      · exact .inl h
    · rcases k with k | ⟨rfl, k⟩
      · exact .inl k
      · exact .inr ⟨rfl, klt_trans h k⟩
theorem klt_tri : ∀ a b, klt a b ∨ a = b ∨ klt b a
  | [], [] => .inr (.inl rfl)
  | [], _ :: _ => .inl (klt_nil_left _ _)
  | _ :: _, [] => .inr (.inr (klt_nil_left _ _))
  | a :: r, b :: q => by
    rw [klt_cons, klt_cons]
    rcases Nat.lt_trichotomy a.toNat b.toNat with h | h | h
    · exact .inl (.inl h)
    · have : a = b := UInt8.toNat_inj.mp h
      subst this
      rcases klt_tri r q with h | h | h
      · exact .inl (.inr ⟨rfl, h⟩)
      · exact .inr (.inl (by rw [h]))
      · exact .inr (.inr (.inr ⟨rfl, h⟩))
    · exact .inr (.inr (.inl h))
theorem klt_asymm {a b : List UInt8} (h : klt a b) : ¬ klt b a := fun k => klt_irrefl a (klt_trans h k)
theorem klt_app (p a b : List UInt8) : klt (p ++ a) (p ++ b) ↔ klt a b := by
  induction p with
  | nil => exact Iff.rfl
  | cons x r ih =>
    rw [List.cons_append, List.cons_append, klt_cons]
    exact ⟨fun h => by rcases h with h | ⟨_, h⟩; exact absurd h (UInt8.lt_irrefl x); exact ih.mp h, fun h => .inr ⟨rfl, ih.mpr h⟩⟩
theorem klt_pre (p : List UInt8) (x : UInt8) (r : List UInt8) : klt p (p ++ x :: r) := by
  have := (klt_app p [] (x :: r)).mpr (klt_nil_left _ _)
  rwa [List.append_nil] at this
theorem klt_byte (p : List UInt8) {x y : UInt8} (r q : List UInt8) (h : x < y) : klt (p ++ x :: r) (p ++ y :: q) := (klt_app p _ _).mpr (klt_cons.mpr (.inl h))

/-- In the order of the keys, each once. -/
def Srt (l : List (List UInt8 × V)) : Prop := l.Pairwise fun a b => klt a.1 b.1

theorem Srt.inj {l : List (List UInt8 × V)} (h : Srt l) {a b : List UInt8 × V} (ha : a ∈ l) (hb : b ∈ l) (e : a.1 = b.1) : a = b := by
  induction l with
  | nil => cases ha
  | cons x r ih =>
    obtain ⟨h1, h2⟩ := List.pairwise_cons.mp h
    rcases List.mem_cons.mp ha with ea | ha'
    · rcases List.mem_cons.mp hb with eb | hb'
      · rw [ea, eb]
      · have := h1 b hb'; rw [← ea, e] at this; exact absurd this (klt_irrefl _)
    · rcases List.mem_cons.mp hb with eb | hb'
      · have := h1 a ha'; rw [← eb, e] at this; exact absurd this (klt_irrefl _)
      · exact ih h2 ha' hb'
/-- Two such lists with the same members are one. -/
theorem Srt.ext : ∀ {l m : List (List UInt8 × V)}, Srt l → Srt m → (∀ e, e ∈ l ↔ e ∈ m) → l = m
  | [], [], _, _, _ => rfl
  | [], x :: r, _, _, h => absurd ((h x).mpr (List.mem_cons_self)) (by simp)
  | x :: r, [], _, _, h => absurd ((h x).mp (List.mem_cons_self)) (by simp)
  | x :: r, y :: q, hl, hm, h => by
    obtain ⟨h1, h2⟩ := List.pairwise_cons.mp hl
    obtain ⟨k1, k2⟩ := List.pairwise_cons.mp hm
    have hxy : x = y := by
      rcases List.mem_cons.mp ((h x).mp List.mem_cons_self) with e | e
      · exact e
      · rcases List.mem_cons.mp ((h y).mpr List.mem_cons_self) with e2 | e2
        · exact e2.symm
        · exact absurd (h1 y e2) (klt_asymm (k1 x e))
    subst hxy
    rw [Srt.ext h2 k2 (fun e => by
      constructor
      · intro he
        rcases List.mem_cons.mp ((h e).mp (List.mem_cons_of_mem _ he)) with e1 | e1
        · subst e1; exact absurd (h1 _ he) (klt_irrefl _)
        · exact e1
      · intro he
        rcases List.mem_cons.mp ((h e).mpr (List.mem_cons_of_mem _ he)) with e1 | e1
        · subst e1; exact absurd (k1 _ he) (klt_irrefl _)
        · exact e1)]

/-- A key's value in a list. -/
def lk (k : List UInt8) (l : List (List UInt8 × V)) : Option V := (l.find? fun e => decide (e.1 = k)).map (·.2)
theorem lk_none {k : List UInt8} {l : List (List UInt8 × V)} (h : ∀ e ∈ l, e.1 ≠ k) : lk k l = none := by
  unfold lk; rw [List.find?_eq_none.mpr (fun e he => by simpa using h e he)]; rfl
theorem lk_mem {k : List UInt8} {l : List (List UInt8 × V)} {v : V} (h : lk k l = some v) : (k, v) ∈ l := by
  unfold lk at h
  obtain ⟨e, he, rfl⟩ := Option.map_eq_some_iff.mp h
  have h1 := List.find?_some he
  simp at h1; subst h1
  exact List.mem_of_find?_eq_some he
theorem lk_some {k : List UInt8} {l : List (List UInt8 × V)} {v : V} (hs : Srt l) (h : (k, v) ∈ l) : lk k l = some v := by
  cases e : lk k l with
  | some u => have := hs.inj (lk_mem e) h rfl; cases this; rfl
  | none =>
    unfold lk at e
    rw [Option.map_eq_none_iff, List.find?_eq_none] at e
    exact absurd (e _ h) (by simp)
theorem lk_iff {k : List UInt8} {l : List (List UInt8 × V)} {v : V} (hs : Srt l) : lk k l = some v ↔ (k, v) ∈ l := ⟨lk_mem, lk_some hs⟩
theorem lk_none_iff {k : List UInt8} {l : List (List UInt8 × V)} : lk k l = none ↔ ∀ e ∈ l, e.1 ≠ k := by
  refine ⟨fun h e he => ?_, lk_none⟩
  unfold lk at h
  rw [Option.map_eq_none_iff, List.find?_eq_none] at h
  simpa using h e he
theorem lk_congr {k : List UInt8} {l m : List (List UInt8 × V)} (hl : Srt l) (hm : Srt m) (h : ∀ v, (k, v) ∈ l ↔ (k, v) ∈ m) : lk k l = lk k m := by
  cases e : lk k l with
  | some u => exact (lk_some hm ((h u).mp (lk_mem e))).symm
  | none =>
    cases e2 : lk k m with
    | none => rfl
    | some u => rw [lk_some hl ((h u).mpr (lk_mem e2))] at e; cases e

/-- The list with a key's value put in. -/
def ins (k : List UInt8) (v : V) (l : List (List UInt8 × V)) : List (List UInt8 × V) := (l.filter fun e => Op.bytesLess e.1 k) ++ (k, v) :: l.filter fun e => Op.bytesLess k e.1
theorem mem_ins {k : List UInt8} {v : V} {l : List (List UInt8 × V)} {e : List UInt8 × V} : e ∈ ins k v l ↔ e = (k, v) ∨ (e ∈ l ∧ e.1 ≠ k) := by
  unfold ins
  rw [List.mem_append, List.mem_cons, List.mem_filter, List.mem_filter, klt_dec, klt_dec]
  constructor
  · rintro (⟨h, h2⟩ | h | ⟨h, h2⟩)
    · exact .inr ⟨h, fun e2 => klt_irrefl k (e2 ▸ h2)⟩
    · exact .inl h
    · exact .inr ⟨h, fun e2 => klt_irrefl k (e2 ▸ h2)⟩
  · rintro (h | ⟨h, h2⟩)
    · exact .inr (.inl h)
    · rcases klt_tri e.1 k with h3 | h3 | h3
      · exact .inl ⟨h, h3⟩
      · exact absurd h3 h2
      · exact .inr (.inr ⟨h, h3⟩)
theorem srt_ins {k : List UInt8} {v : V} {l : List (List UInt8 × V)} (h : Srt l) : Srt (ins k v l) := by
  unfold Srt ins
  rw [List.pairwise_append]
  refine ⟨List.Pairwise.filter _ h, List.pairwise_cons.mpr ⟨fun e he => (List.mem_filter.mp he).2, List.Pairwise.filter _ h⟩, fun a ha b hb => ?_⟩
  have h1 := (List.mem_filter.mp ha).2
  rcases List.mem_cons.mp hb with rfl | hb
  · exact h1
  · exact klt_trans h1 (List.mem_filter.mp hb).2
theorem ins_eq {k : List UInt8} {v : V} {l m : List (List UInt8 × V)} (hl : Srt l) (hm : Srt m) (h : ∀ e, e ∈ m ↔ e = (k, v) ∨ (e ∈ l ∧ e.1 ≠ k)) : m = ins k v l :=
  hm.ext (srt_ins hl) fun e => (h e).trans mem_ins.symm

/-- The list without a key. -/
def del (k : List UInt8) (l : List (List UInt8 × V)) : List (List UInt8 × V) := l.filter fun e => decide (e.1 ≠ k)
theorem mem_del {k : List UInt8} {l : List (List UInt8 × V)} {e : List UInt8 × V} : e ∈ del k l ↔ e ∈ l ∧ e.1 ≠ k := by simp [del, List.mem_filter]
theorem srt_del {k : List UInt8} {l : List (List UInt8 × V)} (h : Srt l) : Srt (del k l) := List.Pairwise.filter _ h
theorem del_eq {k : List UInt8} {l m : List (List UInt8 × V)} (hl : Srt l) (hm : Srt m) (h : ∀ e, e ∈ m ↔ e ∈ l ∧ e.1 ≠ k) : m = del k l :=
  hm.ext (srt_del hl) fun e => (h e).trans mem_del.symm
theorem del_none {k : List UInt8} {l : List (List UInt8 × V)} (h : lk k l = none) : del k l = l :=
  List.filter_eq_self.mpr fun e he => by simpa using lk_none_iff.mp h e he

/-- A node's own pair. -/
def ownL (p : List UInt8) : Option V → List (List UInt8 × V)
  | none => []
  | some v => [(p, v)]
theorem mem_ownL {p : List UInt8} {ov : Option V} {e : List UInt8 × V} : e ∈ ownL p ov ↔ e.1 = p ∧ ov = some e.2 := by
  cases ov with
  | none => simp [ownL]
  | some v => simp [ownL, Prod.ext_iff, eq_comm]

/-- The groups gs of the bytes xs behind the prefix p. -/
structure Grps (p : List UInt8) (xs : List UInt8) (gs : List (List (List UInt8 × V))) : Prop where
  len : xs.length = gs.length
  pw : xs.Pairwise (· < ·)
  some' : ∀ (i : Nat) g, gs[i]? = some g → g ≠ []
  pre : ∀ (i : Nat) x g, xs[i]? = some x → gs[i]? = some g → ∀ e ∈ g, ∃ r, e.1 = p ++ x :: r
  srt : ∀ (i : Nat) g, gs[i]? = some g → Srt g

/-- A list of pairs is that of the node with the prefix p, the value ov and the groups gs behind the bytes xs. -/
structure Shaped (p : List UInt8) (ov : Option V) (xs : List UInt8) (gs : List (List (List UInt8 × V))) (l : List (List UInt8 × V)) : Prop where
  grps : Grps p xs gs
  eq : l = ownL p ov ++ gs.flatten
  two : ov = none → 2 ≤ gs.length

theorem mem_flat {gs : List (List (List UInt8 × V))} {e : List UInt8 × V} : e ∈ gs.flatten ↔ ∃ (i : Nat) (g : List (List UInt8 × V)), gs[i]? = some g ∧ e ∈ g := by
  rw [List.mem_flatten]
  constructor
  · rintro ⟨g, hg, he⟩
    obtain ⟨i, hi, rfl⟩ := List.getElem_of_mem hg
    exact ⟨i, _, List.getElem?_eq_getElem hi, he⟩
  · rintro ⟨i, g, hg, he⟩
    exact ⟨g, List.mem_of_getElem? hg, he⟩
theorem Grps.byte {p xs : List UInt8} {gs : List (List (List UInt8 × V))} (h : Grps p xs gs) {i : Nat} {g : List (List UInt8 × V)} (hg : gs[i]? = some g) : ∃ x, xs[i]? = some x := by
  have hi := (List.getElem?_eq_some_iff.mp hg).1
  exact ⟨xs[i]'(by rw [h.len]; exact hi), List.getElem?_eq_getElem _⟩
theorem Grps.grp {p xs : List UInt8} {gs : List (List (List UInt8 × V))} (h : Grps p xs gs) {i : Nat} {x : UInt8} (hx : xs[i]? = some x) : ∃ g, gs[i]? = some g := by
  have hi := (List.getElem?_eq_some_iff.mp hx).1
  exact ⟨gs[i]'(by rw [← h.len]; exact hi), List.getElem?_eq_getElem _⟩
theorem Grps.srtFlat {p xs : List UInt8} {gs : List (List (List UInt8 × V))} (h : Grps p xs gs) : Srt gs.flatten := by
  unfold Srt
  rw [List.pairwise_flatten]
  refine ⟨fun g hg => ?_, ?_⟩
  · obtain ⟨i, hi, rfl⟩ := List.getElem_of_mem hg
    exact h.srt i _ (List.getElem?_eq_getElem hi)
  · rw [List.pairwise_iff_getElem]
    intro i j hi hj hij a ha b hb
    have gi := List.getElem?_eq_getElem hi
    have gj := List.getElem?_eq_getElem hj
    obtain ⟨x, hx⟩ := h.byte gi
    obtain ⟨y, hy⟩ := h.byte gj
    obtain ⟨r, hr⟩ := h.pre i x _ hx gi a ha
    obtain ⟨q, hq⟩ := h.pre j y _ hy gj b hb
    rw [hr, hq]
    obtain ⟨h1, rfl⟩ := List.getElem?_eq_some_iff.mp hx
    obtain ⟨h2, rfl⟩ := List.getElem?_eq_some_iff.mp hy
    exact klt_byte p r q (List.pairwise_iff_getElem.mp h.pw i j h1 h2 hij)
theorem Grps.front {p xs : List UInt8} {gs : List (List (List UInt8 × V))} (h : Grps p xs gs) {e : List UInt8 × V} (he : e ∈ gs.flatten) : ∃ x r, e.1 = p ++ x :: r := by
  obtain ⟨i, g, hg, he⟩ := mem_flat.mp he
  obtain ⟨x, hx⟩ := h.byte hg
  obtain ⟨r, hr⟩ := h.pre i x g hx hg e he
  exact ⟨x, r, hr⟩
theorem Grps.srtAll {p xs : List UInt8} {gs : List (List (List UInt8 × V))} (h : Grps p xs gs) (ov : Option V) : Srt (ownL p ov ++ gs.flatten) := by
  unfold Srt
  rw [List.pairwise_append]
  refine ⟨?_, h.srtFlat, fun a ha b hb => ?_⟩
  · cases ov <;> simp [ownL]
  · obtain ⟨x, r, hr⟩ := h.front hb
    rw [(mem_ownL.mp ha).1, hr]; exact klt_pre p x r
theorem Shaped.srt {p xs : List UInt8} {ov : Option V} {gs : List (List (List UInt8 × V))} {l : List (List UInt8 × V)} (h : Shaped p ov xs gs l) : Srt l := h.eq ▸ h.grps.srtAll ov
theorem Shaped.mem {p xs : List UInt8} {ov : Option V} {gs : List (List (List UInt8 × V))} {l : List (List UInt8 × V)} (h : Shaped p ov xs gs l) {e : List UInt8 × V} :
    e ∈ l ↔ (e.1 = p ∧ ov = some e.2) ∨ ∃ (i : Nat) (g : List (List UInt8 × V)), gs[i]? = some g ∧ e ∈ g := by rw [h.eq, List.mem_append, mem_ownL, mem_flat]
theorem Shaped.front {p xs : List UInt8} {ov : Option V} {gs : List (List (List UInt8 × V))} {l : List (List UInt8 × V)} (h : Shaped p ov xs gs l) {e : List UInt8 × V} (he : e ∈ l) : p <+: e.1 := by
  rw [h.eq, List.mem_append, mem_ownL] at he
  rcases he with ⟨he, _⟩ | he
  · rw [he]; exact List.prefix_refl _
  · obtain ⟨x, r, hr⟩ := h.grps.front he
    rw [hr]; exact List.prefix_append _ _
theorem Shaped.len {p xs : List UInt8} {ov : Option V} {gs : List (List (List UInt8 × V))} {l : List (List UInt8 × V)} (h : Shaped p ov xs gs l) : l.length = (ownL p ov).length + (gs.map List.length).sum := by
  rw [h.eq, List.length_append, List.length_flatten]

/-- How many of the bytes are ahead of c. -/
def posOf (c : UInt8) (xs : List UInt8) : Nat := xs.countP (· < c)
theorem posOf_of (c : UInt8) (xs : List UInt8) (i : Nat) (hi : i ≤ xs.length) (h1 : ∀ (t : Nat) x, t < i → xs[t]? = some x → x < c) (h2 : ∀ (t : Nat) x, i ≤ t → xs[t]? = some x → ¬ x < c) : posOf c xs = i := by
  induction xs generalizing i with
  | nil => simp at hi; simp [posOf, hi]
  | cons a r ih =>
    cases i with
    | zero =>
      have ha : ¬ a < c := h2 0 a (Nat.zero_le _) rfl
      have hr := ih 0 (Nat.zero_le _) (fun t x ht => absurd ht (Nat.not_lt_zero _)) (fun t x _ hx => h2 (t + 1) x (Nat.zero_le _) (by simpa using hx))
      unfold posOf at hr ⊢
      rw [List.countP_cons_of_neg (by simpa using ha)]; exact hr
    | succ i =>
      have ha : a < c := h1 0 a (Nat.succ_pos _) rfl
      have hr := ih i (by simpa using hi) (fun t x ht hx => h1 (t + 1) x (by omega) (by simpa using hx)) (fun t x ht hx => h2 (t + 1) x (by omega) (by simpa using hx))
      unfold posOf at hr ⊢
      rw [List.countP_cons_of_pos (by simpa using ha), hr]
theorem posOf_spec (c : UInt8) : ∀ (xs : List UInt8), xs.Pairwise (· < ·) → posOf c xs ≤ xs.length ∧ (∀ (t : Nat) x, t < posOf c xs → xs[t]? = some x → x < c) ∧ (∀ (t : Nat) x, posOf c xs ≤ t → xs[t]? = some x → ¬ x < c)
  | [], _ => ⟨Nat.le_refl _, fun t x ht _ => absurd ht (Nat.not_lt_zero _), fun t x _ hx => by simp at hx⟩
  | a :: r, h => by
    obtain ⟨h1, h2⟩ := List.pairwise_cons.mp h
    obtain ⟨i1, i2, i3⟩ := posOf_spec c r h2
    by_cases ha : a < c
    · have e : posOf c (a :: r) = posOf c r + 1 := by unfold posOf; rw [List.countP_cons_of_pos (by simpa using ha)]
      rw [e]
      refine ⟨by simpa using i1, fun t x ht hx => ?_, fun t x ht hx => ?_⟩
      · cases t with
        | zero => simp at hx; exact hx ▸ ha
        | succ t => exact i2 t x (by omega) (by simpa using hx)
      · cases t with
        | zero => omega
        | succ t => exact i3 t x (by omega) (by simpa using hx)
    · have hall : ∀ x ∈ a :: r, ¬ x < c := by
        intro x hx
        rcases List.mem_cons.mp hx with e | e
        · exact e ▸ ha
        · exact fun h3 => ha (UInt8.lt_trans (h1 x e) h3)
      have e : posOf c (a :: r) = 0 := by unfold posOf; rw [List.countP_eq_zero]; intro x hx; simpa using hall x hx
      rw [e]
      exact ⟨Nat.zero_le _, fun t x ht _ => absurd ht (Nat.not_lt_zero _), fun t x _ hx => hall x (List.mem_of_getElem? hx)⟩
theorem getElem?_put {α : Type} (L : List α) (i j : Nat) (a : α) (hi : i ≤ L.length) : (L.take i ++ a :: L.drop i)[j]? = if j < i then L[j]? else if j = i then some a else L[j - 1]? := by
  by_cases h1 : j < i
  · rw [if_pos h1, List.getElem?_append_left (by simp; omega), List.getElem?_take, if_pos h1]
  · rw [if_neg h1, List.getElem?_append_right (by simp; omega)]
    have e : (L.take i).length = i := by simp; omega
    rw [e]
    by_cases h2 : j = i
    · subst h2; simp
    · rw [if_neg h2]
      obtain ⟨m, rfl⟩ : ∃ m, j = i + 1 + m := ⟨j - i - 1, by omega⟩
      rw [show i + 1 + m - i = m + 1 by omega, List.getElem?_cons_succ, List.getElem?_drop]
      congr 1; omega
theorem getElem?_rep {α : Type} (L : List α) (i j : Nat) (a : α) (hi : i < L.length) : (L.take i ++ a :: L.drop (i + 1))[j]? = if j = i then some a else L[j]? := by
  have e := List.set_eq_take_append_cons_drop (l := L) (i := i) (a := a)
  rw [if_pos hi] at e
  rw [← e, List.getElem?_set]
  by_cases h : i = j
  · subst h; simp [hi]
  · rw [if_neg h, if_neg (fun e => h e.symm)]

end Go.Proofs.Ytcgjppacnhmjlaa
end

section
set_option linter.unusedVariables false
set_option linter.unusedSimpArgs false
set_option linter.unusedSectionVars false
set_option linter.unusedVariables false
set_option linter.unusedSimpArgs false
namespace Go.Proofs.Ytcgjppacnhmjlaa
open Go.RowKit

set_option maxHeartbeats 400000 in
theorem placeCmp_any (b B : Nat) (pre : ByteArray) (c : UInt8) (m : Nat) (w : World) (hp : w.cell? ⟨b, 0, none⟩ = some (.string pre)) (hB : w.cell? ⟨B, 0, none⟩ = some (.int .i64 m)) (hm : m < pre.size) (hs : pre.size ≤ 1000000) :
    Calls Try.prog 126 #[.pointer (some ⟨b, 0, none⟩), .int .u8 c.toNat, .pointer (some ⟨B, 0, none⟩)] w fun e w' => e = .returned (.int .i64 (cmpByte pre[m] c)) ∧ ∃ n, w' = w.drewN n := by
  go_enter Try.func126, Try.ntmps126
  go_wp2
  go_quiet ((go_at_call 100; exact Calls.quiet_of_same (compareByte_any _ _ _)))
  go_wp2
  go_ret
  exact ⟨rfl, _, rfl⟩

theorem cmpByte_neg {a b : UInt8} : cmpByte a b < 0 ↔ a < b := by
  unfold cmpByte; constructor
  · intro h; by_cases h1 : a < b
    · exact h1
    · rw [if_neg h1] at h; split at h <;> omega
  · intro h; rw [if_pos h]; decide
theorem cmpByte_zero {a b : UInt8} : cmpByte a b = 0 ↔ a = b := by
  unfold cmpByte; constructor
  · intro h; by_cases h1 : a < b
    · rw [if_pos h1] at h; omega
    · rw [if_neg h1] at h
      by_cases h2 : b < a
      · rw [if_pos h2] at h; omega
      · exact UInt8.le_antisymm (UInt8.not_lt.mp h2) (UInt8.not_lt.mp h1)
  · rintro rfl; simp [UInt8.lt_irrefl]

/-- The branches' prefixes have the bytes xs at place m. -/
def BytesAt (w : World) (m : Nat) (cs : List Nat) (xs : List UInt8) : Prop :=
  cs.length = xs.length ∧ ∀ (i b : Nat) (x : UInt8), cs[i]? = some b → xs[i]? = some x → ∃ p : ByteArray, w.cell? ⟨b, 0, none⟩ = some (.string p) ∧ p.size ≤ 1000000 ∧ ∃ h : m < p.size, p[m] = x

theorem pw_lt {xs : List UInt8} (h : xs.Pairwise (· < ·)) {i j : Nat} {x y : UInt8} (hx : xs[i]? = some x) (hy : xs[j]? = some y) (hij : i < j) : x < y := by
  obtain ⟨h1, rfl⟩ := List.getElem?_eq_some_iff.mp hx
  obtain ⟨h2, rfl⟩ := List.getElem?_eq_some_iff.mp hy
  exact List.pairwise_iff_getElem.mp h i j h1 h2 hij

theorem ret_idx {a b : Nat} {f g : Bool} (h : a = b) (h2 : f = g) : Ending.returned (.tuple #[.int .i64 (a : Int), .bool f]) = .returned (.tuple #[.int .i64 (b : Int), .bool g]) := by rw [h, h2]

set_option maxHeartbeats 1000000 in
theorem search_some (k o cap B m : Nat) (c : UInt8) (cs : List Nat) (xs : List UInt8) (w : World) (hb : BrAt w k o cs) (hx : BytesAt w m cs xs) (hlen : cs.length ≤ 256) (hpw : xs.Pairwise (· < ·)) (hB : w.cell? ⟨B, 0, none⟩ = some (.int .i64 m)) :
    Calls Try.prog 125 #[.slice (some ⟨k, o, none⟩) cs.length cap, .int .u8 c.toNat, .func (.func 126) #[] #[.pointer (some ⟨B, 0, none⟩)]] w fun e w' =>
      e = .returned (.tuple #[.int .i64 (posOf c xs), .bool (decide (xs[posOf c xs]? = some c))]) ∧ ∃ n, w' = w.drewN n := by
  have HB : Hid (BrAt w k o cs) := hb
  have HX : Hid (BytesAt w m cs xs) := hx
  have HP : Hid (xs.Pairwise (· < ·)) := hpw
  clear hb hx hpw
  generalize hpos : posOf c xs = q
  have HQ : Hid (posOf c xs = q) := hpos
  clear hpos
  generalize hfnd : decide (xs[q]? = some c) = f
  have HF : Hid (decide (xs[q]? = some c) = f) := hfnd
  clear hfnd
  go_enter Try.func125, Try.ntmps125
  go_wp2
  go_loopg [9, 10] cs.length (fun gk s9 s10 wr => ∃ lo hi : Nat, s9 = .int .i64 lo ∧ s10 = .int .i64 hi ∧ lo ≤ hi ∧ hi ≤ cs.length ∧ hi - lo ≤ gk ∧ (∃ n, wr = w.drewN n) ∧
    Hid ((∀ (t : Nat) x, t < lo → xs[t]? = some x → x < c) ∧ (∀ (t : Nat) x, hi ≤ t → xs[t]? = some x → ¬ x < c)))
  case atStart =>
    exact ⟨0, cs.length, rfl, rfl, Nat.zero_le _, Nat.le_refl _, by omega, ⟨0, rfl⟩, ⟨fun t x ht => absurd ht (Nat.not_lt_zero _), fun t x h1 h2 => by
      have := (List.getElem?_eq_some_iff.mp h2).1; have := HX.out.1; omega⟩⟩
  case round =>
    obtain ⟨lo, hi, rfl, rfl, hlh, hin, hg, ⟨nd, rfl⟩, I⟩ := hrel
    by_cases hlt : lo < hi
    · have hmid : (lo + hi) / 2 < cs.length := by omega
      obtain ⟨b, hbb⟩ : ∃ b, cs[(lo + hi) / 2]? = some b := ⟨cs[(lo + hi) / 2], List.getElem?_eq_getElem hmid⟩
      obtain ⟨x, hxx⟩ : ∃ x, xs[(lo + hi) / 2]? = some x := ⟨xs[(lo + hi) / 2]'(by rw [← HX.out.1]; exact hmid), List.getElem?_eq_getElem _⟩
      obtain ⟨p, hp, hps, hpm, hpx⟩ := HX.out.2 _ _ _ hbb hxx
      have hcell := HB.out _ _ hbb
      have X1 : Hid (xs[(lo + hi) / 2]? = some x) := hxx
      have X2 : Hid (p[m] = x) := hpx
      clear hbb hxx hpx
      have HD : Hid ((cmpByte p[m] c < 0 → x < c) ∧ (¬ cmpByte p[m] c < 0 → ¬ x < c)) := ⟨fun h => X2.out ▸ cmpByte_neg.mp h, fun h h2 => h (cmpByte_neg.mpr (X2.out ▸ h2))⟩
      by_cases hyx : cmpByte p[m] c < 0
      · have HE : Hid (x < c) := HD.out.1 hyx
        go_wp2_with (go_at_call 126; refine (placeCmp_any b B p c m _ (by simpa using hp) (by simpa using hB) hpm hps).mono ?_; rintro e w' ⟨rfl, nq, rfl⟩)
        go_roundg (hi - ((lo + hi) / 2 + 1))
        case measure => omega
        case rel =>
          have I2 : Hid ((∀ (t : Nat) x, t < (lo + hi) / 2 + 1 → xs[t]? = some x → x < c) ∧ (∀ (t : Nat) x, hi ≤ t → xs[t]? = some x → ¬ x < c)) := by
            refine ⟨fun t y ht hy => ?_, I.out.2⟩
            have hxc : x < c := HE.out
            rcases Nat.lt_or_eq_of_le (Nat.le_of_lt_succ ht) with h | h
            · exact UInt8.lt_trans (pw_lt HP.out hy X1.out h) hxc
            · subst h; rw [X1.out] at hy; exact Option.some.inj hy ▸ hxc
          exact ⟨(lo + hi) / 2 + 1, hi, by rw [show ((lo : Int) + (hi : Int)) / 2 + 1 = (((lo + hi) / 2 + 1 : Nat) : Int) by omega], rfl, by omega, hin, Nat.le_refl _, ⟨_, rfl⟩, I2⟩
      · have HE : Hid (¬ x < c) := HD.out.2 hyx
        go_wp2_with (go_at_call 126; refine (placeCmp_any b B p c m _ (by simpa using hp) (by simpa using hB) hpm hps).mono ?_; rintro e w' ⟨rfl, nq, rfl⟩)
        go_roundg ((lo + hi) / 2 - lo)
        case measure => omega
        case rel =>
          have I2 : Hid ((∀ (t : Nat) x, t < lo → xs[t]? = some x → x < c) ∧ (∀ (t : Nat) x, (lo + hi) / 2 ≤ t → xs[t]? = some x → ¬ x < c)) := by
            refine ⟨I.out.1, fun t y ht hy => ?_⟩
            have hxc : ¬ x < c := HE.out
            rcases Nat.lt_or_eq_of_le ht with h | h
            · have := pw_lt HP.out X1.out hy h
              exact fun h3 => hxc (UInt8.lt_trans this h3)
            · rw [← h, X1.out] at hy; exact Option.some.inj hy ▸ hxc
          exact ⟨lo, (lo + hi) / 2, rfl, by rw [show ((lo : Int) + (hi : Int)) / 2 = (((lo + hi) / 2 : Nat) : Int) by omega], by omega, by omega, Nat.le_refl _, ⟨_, rfl⟩, I2⟩
    · have elo : lo = hi := by omega
      subst elo
      have eq : lo = q := by
        rw [← HQ.out]; exact (posOf_of c xs lo (by rw [← HX.out.1]; exact hin) I.out.1 I.out.2).symm
      by_cases hl : lo < cs.length
      · obtain ⟨b, hbb⟩ : ∃ b, cs[lo]? = some b := ⟨cs[lo], List.getElem?_eq_getElem hl⟩
        obtain ⟨x, hxx⟩ : ∃ x, xs[lo]? = some x := ⟨xs[lo]'(by rw [← HX.out.1]; exact hl), List.getElem?_eq_getElem _⟩
        obtain ⟨p, hp, hps, hpm, hpx⟩ := HX.out.2 _ _ _ hbb hxx
        have hcell := HB.out _ _ hbb
        have X1 : Hid (xs[lo]? = some x) := hxx
        have X2 : Hid (p[m] = x) := hpx
        have EQ : Hid (lo = q) := eq
        clear hbb hxx hpx eq
        go_wp2_with (go_at_call 126; refine (placeCmp_any b B p c m _ (by simpa using hp) (by simpa using hB) hpm hps).mono ?_; rintro e w' ⟨rfl, nq, rfl⟩)
        go_ret2
        refine ⟨?_, _, by first | rfl | exact World.drewN_drewN _ _ _⟩
        exact ret_idx EQ.out (by
          rw [← HF.out, ← EQ.out, X1.out, ← X2.out, Bool.eq_iff_iff]
          simp only [beq_iff_eq, decide_eq_true_eq, Option.some.injEq]
          exact cmpByte_zero)
      · have EQ : Hid (lo = q) := eq
        clear eq
        go_wp2
        go_ret2
        refine ⟨?_, _, rfl⟩
        exact ret_idx EQ.out (by
          rw [← HF.out, ← EQ.out, List.getElem?_eq_none (by rw [← HX.out.1]; omega)]; rfl)

set_option maxHeartbeats 400000 in
theorem search_nil (B : Nat) (c : UInt8) (w : World) :
    Calls Try.prog 125 #[.slice none 0 0, .int .u8 c.toNat, .func (.func 126) #[] #[.pointer (some ⟨B, 0, none⟩)]] w fun e w' =>
      e = .returned (.tuple #[.int .i64 0, .bool false]) ∧ w' = w := by
  go_enter Try.func125, Try.ntmps125
  go_wp2
  refine wp_loop_rounds 1 ?_
  rw [rounds_succ]
  go_wp2
  go_ret2
  exact ⟨rfl, rfl⟩

theorem below_drewN'' {B : Nat} {a w : World} (h : Below B a w) (q : Nat) : Below B a (w.drewN q) := ⟨h.os, h.tape, h.output, h.size, h.block⟩
theorem BytesAt.later {w w' : World} {m : Nat} {cs : List Nat} {xs : List UInt8} (h : BytesAt w m cs xs) (hb : Below w.heap.size w w') : BytesAt w' m cs xs :=
  ⟨h.1, fun i b x h1 h2 => by obtain ⟨p, h3, h4⟩ := h.2 i b x h1 h2; exact ⟨p, cell_later hb h3, h4⟩⟩
theorem BrAt.later {w w' : World} {k o : Nat} {cs : List Nat} (h : BrAt w k o cs) (hb : Below w.heap.size w w') : BrAt w' k o cs := fun i c h1 => cell_later hb (h i c h1)
theorem SzAt.later {w w' : World} {cs ns : List Nat} (h : SzAt w cs ns) (hb : Below w.heap.size w w') : SzAt w' cs ns := ⟨h.1, fun i c n h1 h2 => cell_later hb (h.2 i c n h1 h2)⟩

set_option maxHeartbeats 1000000 in
theorem place_some (b : Nat) (pre key : ByteArray) (k o cap : Nat) (cs : List Nat) (xs : List UInt8) (w : World) (hp : w.cell? ⟨b, 0, none⟩ = some (.string pre)) (hv : w.cell? ⟨b, 2, none⟩ = some (.slice (some ⟨k, o, none⟩) cs.length cap))
    (hb : BrAt w k o cs) (hx : BytesAt w pre.size cs xs) (hlen : cs.length ≤ 256) (hpw : xs.Pairwise (· < ·)) (hks : key.size ≤ 9223372036854775807) (hm : pre.size < key.size) :
    Calls Try.prog 102 #[.pointer (some ⟨b, 0, none⟩), .string key] w fun e w' =>
      e = .returned (.tuple #[.int .i64 (posOf key[pre.size] xs), .bool (decide (xs[posOf key[pre.size] xs]? = some key[pre.size]))]) ∧ Below w.heap.size w w' := by
  have HB : Hid (BrAt w k o cs) := hb
  have HX : Hid (BytesAt w pre.size cs xs) := hx
  have HP : Hid (xs.Pairwise (· < ·)) := hpw
  clear hb hx hpw
  have hs : ∀ n, Calls Try.prog 125 #[.slice (some ⟨k, o, none⟩) cs.length cap, .int .u8 key[pre.size].toNat, .func (.func 126) #[] #[.pointer (some ⟨w.heap.size, 0, none⟩)]] ((w.alloc (.cells #[.int .i64 pre.size] 3)).drewN n) fun e w' =>
      e = .returned (.tuple #[.int .i64 (posOf key[pre.size] xs), .bool (decide (xs[posOf key[pre.size] xs]? = some key[pre.size]))]) ∧ ∃ m, w' = ((w.alloc (.cells #[.int .i64 pre.size] 3)).drewN n).drewN m := by
    intro n
    refine search_some k o cap w.heap.size pre.size _ cs xs _ ?_ ?_ hlen HP.out ?_
    · exact HB.out.later (below_drewN'' ((Below.refl _ _).alloc (Nat.le_refl _) _) _)
    · exact HX.out.later (below_drewN'' ((Below.refl _ _).alloc (Nat.le_refl _) _) _)
    · simp
  have HS : Hid (∀ n, Calls Try.prog 125 #[.slice (some ⟨k, o, none⟩) cs.length cap, .int .u8 key[pre.size].toNat, .func (.func 126) #[] #[.pointer (some ⟨w.heap.size, 0, none⟩)]] ((w.alloc (.cells #[.int .i64 pre.size] 3)).drewN n) fun e w' =>
      e = .returned (.tuple #[.int .i64 (posOf key[pre.size] xs), .bool (decide (xs[posOf key[pre.size] xs]? = some key[pre.size]))]) ∧ ∃ m, w' = ((w.alloc (.cells #[.int .i64 pre.size] 3)).drewN n).drewN m) := hs
  clear hs
  have hv' : ∀ ob, (w.alloc ob).cell? ⟨b, 2, none⟩ = some (.slice (some ⟨k, o, none⟩) cs.length cap) := fun ob => cell_later ((Below.refl _ _).alloc (Nat.le_refl _) _) hv
  generalize posOf key[pre.size] xs = q at *
  generalize decide (xs[q]? = some key[pre.size]) = f at *
  go_enter Try.func102, Try.ntmps102
  go_wp2
  go_quiet ((go_at_call 125; exact Calls.quiet_of (HS.out _)))
  go_wp2
  go_ret2
  exact ⟨rfl, below_drewN'' (((Below.refl _ _).alloc (Nat.le_refl _) _)) _⟩

end Go.Proofs.Ytcgjppacnhmjlaa
end
