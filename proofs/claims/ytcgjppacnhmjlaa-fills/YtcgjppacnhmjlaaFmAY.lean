/- Own texts: PUniP, PUniA, PUniB. -/
import Derived.Test.YtcgjppacnhmjlaaFmAS
import Derived.Test.YtcgjppacnhmjlaaFmAU
import Derived.Test.YtcgjppacnhmjlaaFmAT
import Derived.Test.YtcgjppacnhmjlaaFmAX

section
set_option linter.unusedVariables false
set_option linter.unusedSimpArgs false
set_option linter.unusedSectionVars false
set_option linter.unusedVariables false
set_option linter.unusedSimpArgs false
namespace Go.Proofs.Ytcgjppacnhmjlaa
section
variable {V : Type}
/-- The pairs of both; where both have a key, the second one's. -/
def uni (l m : List (List UInt8 × V)) : List (List UInt8 × V) := m.foldl (fun a e => ins e.1 e.2 a) l
theorem uni_nil (l : List (List UInt8 × V)) : uni l [] = l := rfl
theorem srt_uni {l m : List (List UInt8 × V)} (h : Srt l) : Srt (uni l m) := by
  induction m generalizing l with
  | nil => exact h
  | cons p m ih => exact ih (srt_ins h)
theorem mem_uni {l m : List (List UInt8 × V)} (hm : Srt m) {e : List UInt8 × V} : e ∈ uni l m ↔ e ∈ m ∨ (e ∈ l ∧ ∀ q ∈ m, q.1 ≠ e.1) := by
  induction m generalizing l with
  | nil => simp [uni]
  | cons p m ih =>
    obtain ⟨h1, h2⟩ := List.pairwise_cons.mp hm
    have := ih (l := ins p.1 p.2 l) h2
    show e ∈ uni (ins p.1 p.2 l) m ↔ _
    rw [this, mem_ins]
    constructor
    · rintro (h | ⟨rfl | ⟨h3, h4⟩, h5⟩)
      · exact .inl (List.mem_cons_of_mem _ h)
      · exact .inl (List.mem_cons_self)
      · exact .inr ⟨h3, fun q hq => by rcases List.mem_cons.mp hq with rfl | hq <;> first | exact fun e => h4 e.symm | exact h5 q hq⟩
    · rintro (h | ⟨h3, h4⟩)
      · rcases List.mem_cons.mp h with rfl | h
        · exact .inr ⟨.inl rfl, fun q hq e => by have := h1 q hq; rw [e] at this; exact klt_irrefl _ this⟩
        · exact .inl h
      · exact .inr ⟨.inr ⟨h3, fun e => h4 p (List.mem_cons_self) e.symm⟩, fun q hq => h4 q (List.mem_cons_of_mem _ hq)⟩
theorem uni_eq {l m r : List (List UInt8 × V)} (hl : Srt l) (hm : Srt m) (hr : Srt r) (h : ∀ e, e ∈ r ↔ e ∈ m ∨ (e ∈ l ∧ ∀ q ∈ m, q.1 ≠ e.1)) : r = uni l m :=
  Srt.ext hr (srt_uni hl) fun e => (h e).trans (mem_uni hm).symm
theorem nil_uni {m : List (List UInt8 × V)} (hm : Srt m) : uni [] m = m := (uni_eq List.Pairwise.nil hm hm (fun e => by simp)).symm
theorem uni_self {m : List (List UInt8 × V)} (hm : Srt m) : uni m m = m := by
  refine (uni_eq hm hm hm (fun e => ?_)).symm
  constructor
  · exact .inl
  · rintro (h | ⟨h, _⟩) <;> exact h
theorem len_uni_le {l m : List (List UInt8 × V)} (hl : Srt l) : (uni l m).length ≤ l.length + m.length := by
  induction m generalizing l with
  | nil => exact Nat.le_refl _
  | cons p m ih =>
    have h1 := ih (l := ins p.1 p.2 l) (srt_ins hl)
    have h2 := len_ins_le p.1 p.2 l hl
    show (uni (ins p.1 p.2 l) m).length ≤ _
    simp; omega
theorem ne_uni {l m : List (List UInt8 × V)} (hm : Srt m) (h : m ≠ []) : uni l m ≠ [] := by
  obtain ⟨e, he⟩ := List.exists_mem_of_ne_nil _ h
  exact List.ne_nil_of_mem ((mem_uni hm).mpr (.inl he))

abbrev Grp (V : Type) := UInt8 × List (List UInt8 × V)
/-- Groups behind the prefix p, in the order of their bytes. -/
structure GP (p : List UInt8) (a : List (Grp V)) : Prop where
  pw : a.Pairwise fun x y => x.1 < y.1
  each : ∀ q ∈ a, q.2 ≠ [] ∧ Srt q.2 ∧ ∀ e ∈ q.2, ∃ r, e.1 = p ++ q.1 :: r
def flatG (a : List (Grp V)) : List (List UInt8 × V) := (a.map (·.2)).flatten
theorem mem_flatG {a : List (Grp V)} {e : List UInt8 × V} : e ∈ flatG a ↔ ∃ q ∈ a, e ∈ q.2 := by
  unfold flatG; rw [List.mem_flatten]
  constructor
  · rintro ⟨g, hg, he⟩; obtain ⟨q, hq, rfl⟩ := List.mem_map.mp hg; exact ⟨q, hq, he⟩
  · rintro ⟨q, hq, he⟩; exact ⟨q.2, List.mem_map.mpr ⟨q, hq, rfl⟩, he⟩
theorem flatG_cons (q : Grp V) (a : List (Grp V)) : flatG (q :: a) = q.2 ++ flatG a := rfl
theorem GP.to {p : List UInt8} {a : List (Grp V)} (h : GP p a) : Grps p (a.map (·.1)) (a.map (·.2)) := by
  refine ⟨by simp, List.pairwise_map.mpr h.pw, fun i g hg => ?_, fun i x g hx hg => ?_, fun i g hg => ?_⟩
  · rw [List.getElem?_map, Option.map_eq_some_iff] at hg
    obtain ⟨q, hq, rfl⟩ := hg
    exact (h.each q (List.mem_of_getElem? hq)).1
  · rw [List.getElem?_map, Option.map_eq_some_iff] at hg hx
    obtain ⟨q, hq, rfl⟩ := hg
    obtain ⟨q', hq', rfl⟩ := hx
    rw [hq] at hq'; cases hq'
    exact (h.each q (List.mem_of_getElem? hq)).2.2
  · rw [List.getElem?_map, Option.map_eq_some_iff] at hg
    obtain ⟨q, hq, rfl⟩ := hg
    exact (h.each q (List.mem_of_getElem? hq)).2.1
theorem GP.of {p xs : List UInt8} {gs : List (List (List UInt8 × V))} (h : Grps p xs gs) : GP p (xs.zip gs) := by
  refine ⟨?_, fun q hq => ?_⟩
  · have h1 : ((xs.zip gs).map (·.1)).Pairwise (· < ·) := by rw [List.map_fst_zip (by rw [h.len]; exact Nat.le_refl _)]; exact h.pw
    exact List.pairwise_map.mp h1
  · obtain ⟨i, hi, e⟩ := List.getElem_of_mem hq
    have h2 : (xs.zip gs)[i]? = some q := by rw [List.getElem?_eq_getElem hi, e]
    obtain ⟨hx, hg⟩ := List.getElem?_zip_eq_some.mp h2
    exact ⟨h.some' i _ hg, h.srt i _ hg, h.pre i _ _ hx hg⟩
theorem zip_fst {xs : List UInt8} {gs : List (List (List UInt8 × V))} (h : xs.length = gs.length) : (xs.zip gs).map (·.1) = xs := List.map_fst_zip (by rw [h]; exact Nat.le_refl _)
theorem zip_snd {xs : List UInt8} {gs : List (List (List UInt8 × V))} (h : xs.length = gs.length) : (xs.zip gs).map (·.2) = gs := List.map_snd_zip (by rw [h]; exact Nat.le_refl _)

/-- Groups of both; behind the same byte they are made one. -/
def mg : List (Grp V) → List (Grp V) → List (Grp V)
  | [], b => b
  | a, [] => a
  | q :: a, s :: b => if q.1 < s.1 then q :: mg a (s :: b) else if s.1 < q.1 then s :: mg (q :: a) b else (q.1, uni q.2 s.2) :: mg a b
termination_by a b => a.length + b.length
theorem mg_nil (a : List (Grp V)) : mg a [] = a := by cases a <;> simp [mg]
theorem nil_mg (a : List (Grp V)) : mg [] a = a := by simp [mg]
theorem mg_lt {q s : Grp V} {a b : List (Grp V)} (h : q.1 < s.1) : mg (q :: a) (s :: b) = q :: mg a (s :: b) := by rw [mg, if_pos h]
theorem mg_gt {q s : Grp V} {a b : List (Grp V)} (h : s.1 < q.1) : mg (q :: a) (s :: b) = s :: mg (q :: a) b := by
  rw [mg, if_neg (fun h2 => UInt8.lt_irrefl _ (UInt8.lt_trans h h2)), if_pos h]
theorem mg_eq {q s : Grp V} {a b : List (Grp V)} (h : q.1 = s.1) : mg (q :: a) (s :: b) = (q.1, uni q.2 s.2) :: mg a b := by
  rw [mg, if_neg (by rw [h]; exact UInt8.lt_irrefl _), if_neg (by rw [h]; exact UInt8.lt_irrefl _)]
theorem u8_tri (x y : UInt8) : x < y ∨ x = y ∨ y < x := by
  rcases Nat.lt_trichotomy x.toNat y.toNat with h | h | h
  · exact .inl h
  · exact .inr (.inl (UInt8.toNat_inj.mp h))
  · exact .inr (.inr h)
theorem GP.tail {p : List UInt8} {q : Grp V} {a : List (Grp V)} (h : GP p (q :: a)) : GP p a := ⟨(List.pairwise_cons.mp h.pw).2, fun s hs => h.each s (List.mem_cons_of_mem _ hs)⟩
theorem GP.cons {p : List UInt8} {q : Grp V} {a : List (Grp V)} (h : GP p a) (h1 : ∀ s ∈ a, q.1 < s.1) (h2 : q.2 ≠ [] ∧ Srt q.2 ∧ ∀ e ∈ q.2, ∃ r, e.1 = p ++ q.1 :: r) : GP p (q :: a) :=
  ⟨List.pairwise_cons.mpr ⟨h1, h.pw⟩, fun s hs => by rcases List.mem_cons.mp hs with rfl | hs <;> first | exact h2 | exact h.each s hs⟩
/-- Keys of groups of different bytes are different. -/
theorem GP.apart {p : List UInt8} {a b : List (Grp V)} (ha : GP p a) (hb : GP p b) {q s : Grp V} (hq : q ∈ a) (hs : s ∈ b) (hne : q.1 ≠ s.1) {e f : List UInt8 × V} (he : e ∈ q.2) (hf : f ∈ s.2) : f.1 ≠ e.1 := by
  obtain ⟨r, hr⟩ := (ha.each q hq).2.2 e he
  obtain ⟨t, ht⟩ := (hb.each s hs).2.2 f hf
  intro e1
  rw [hr, ht] at e1
  exact hne (app_inj e1).1.symm
theorem mg_all {p : List UInt8} : ∀ (n : Nat) {a b : List (Grp V)}, a.length + b.length ≤ n → GP p a → GP p b →
    GP p (mg a b) ∧ (∀ q ∈ mg a b, (∃ s ∈ a, s.1 = q.1) ∨ ∃ s ∈ b, s.1 = q.1) ∧ (∀ e, e ∈ flatG (mg a b) ↔ e ∈ flatG b ∨ (e ∈ flatG a ∧ ∀ q ∈ flatG b, q.1 ≠ e.1)) ∧ a.length ≤ (mg a b).length ∧ b.length ≤ (mg a b).length
  | n, [], b, _, ha, hb => by
    rw [nil_mg]
    exact ⟨hb, fun q hq => .inr ⟨q, hq, rfl⟩, fun e => by simp [flatG], by simp, Nat.le_refl _⟩
  | n, q :: a, [], _, ha, hb => by
    rw [mg_nil]
    exact ⟨ha, fun s hs => .inl ⟨s, hs, rfl⟩, fun e => by simp [flatG], Nat.le_refl _, by simp⟩
  | 0, q :: a, s :: b, hn, _, _ => by simp at hn
  | n + 1, q :: a, s :: b, hn, ha, hb => by
    have hqa := (List.pairwise_cons.mp ha.pw).1
    have hsb := (List.pairwise_cons.mp hb.pw).1
    rcases u8_tri q.1 s.1 with h | h | h
    · rw [mg_lt h]
      obtain ⟨i1, i2, i3, i4, i5⟩ := mg_all n (a := a) (b := s :: b) (by simp at hn ⊢; omega) ha.tail hb
      have hlow : ∀ t ∈ s :: b, q.1 < t.1 := fun t ht => by rcases List.mem_cons.mp ht with rfl | ht <;> first | exact h | exact UInt8.lt_trans h (hsb t ht)
      refine ⟨i1.cons (fun t ht => ?_) (ha.each q List.mem_cons_self), fun t ht => ?_, fun e => ?_, by simp; omega, by simp at i5 ⊢; omega⟩
      · rcases i2 t ht with ⟨u, hu, e⟩ | ⟨u, hu, e⟩
        · rw [← e]; exact hqa u hu
        · rw [← e]; exact hlow u hu
      · rcases List.mem_cons.mp ht with rfl | ht
        · exact .inl ⟨t, List.mem_cons_self, rfl⟩
        · rcases i2 t ht with ⟨u, hu, e⟩ | h
          · exact .inl ⟨u, List.mem_cons_of_mem _ hu, e⟩
          · exact .inr h
      · rw [flatG_cons, List.mem_append, i3 e, flatG_cons q a, List.mem_append]
        constructor
        · rintro (h1 | h1 | ⟨h1, h2⟩)
          · refine .inr ⟨.inl h1, fun f hf => ?_⟩
            obtain ⟨t, ht, hft⟩ := mem_flatG.mp hf
            exact GP.apart ha hb List.mem_cons_self ht (UInt8.ne_of_lt (hlow t ht)) h1 hft
          · exact .inl h1
          · exact .inr ⟨.inr h1, h2⟩
        · rintro (h1 | ⟨h1 | h1, h2⟩)
          · exact .inr (.inl h1)
          · exact .inl h1
          · exact .inr (.inr ⟨h1, h2⟩)
    · rw [mg_eq h]
      obtain ⟨i1, i2, i3, i4, i5⟩ := mg_all n (a := a) (b := b) (by simp at hn ⊢; omega) ha.tail hb.tail
      have hq := ha.each q List.mem_cons_self
      have hs := hb.each s List.mem_cons_self
      refine ⟨i1.cons (fun t ht => ?_) ⟨ne_uni hs.2.1 hs.1, srt_uni hq.2.1, fun e he => ?_⟩, fun t ht => ?_, fun e => ?_, by simp; omega, by simp; omega⟩
      · rcases i2 t ht with ⟨u, hu, e⟩ | ⟨u, hu, e⟩
        · rw [← e]; exact hqa u hu
        · rw [← e]; show q.1 < u.1; rw [h]; exact hsb u hu
      · rcases (mem_uni hs.2.1).mp he with h1 | ⟨h1, _⟩
        · show ∃ r, e.1 = p ++ q.1 :: r
          rw [h]; exact hs.2.2 e h1
        · exact hq.2.2 e h1
      · rcases List.mem_cons.mp ht with rfl | ht
        · exact .inl ⟨q, List.mem_cons_self, rfl⟩
        · rcases i2 t ht with ⟨u, hu, e⟩ | ⟨u, hu, e⟩
          · exact .inl ⟨u, List.mem_cons_of_mem _ hu, e⟩
          · exact .inr ⟨u, List.mem_cons_of_mem _ hu, e⟩
      · rw [flatG_cons, List.mem_append, i3 e, flatG_cons q a, flatG_cons s b, List.mem_append, List.mem_append]
        show e ∈ uni q.2 s.2 ∨ _ ↔ _
        rw [mem_uni hs.2.1]
        have hqb : ∀ f ∈ flatG b, ∀ e ∈ q.2, f.1 ≠ e.1 := fun f hf e he => by
          obtain ⟨t, ht, hft⟩ := mem_flatG.mp hf
          exact GP.apart ha hb List.mem_cons_self (List.mem_cons_of_mem _ ht) (by rw [h]; exact UInt8.ne_of_lt (hsb t ht)) he hft
        have hsa : ∀ e ∈ flatG a, ∀ f ∈ s.2, f.1 ≠ e.1 := fun e he f hf => by
          obtain ⟨t, ht, het⟩ := mem_flatG.mp he
          exact GP.apart ha hb (List.mem_cons_of_mem _ ht) List.mem_cons_self (by rw [← h]; exact (UInt8.ne_of_lt (hqa t ht)).symm) het hf
        constructor
        · rintro ((h1 | ⟨h1, h2⟩) | h1 | ⟨h1, h2⟩)
          · exact .inl (.inl h1)
          · exact .inr ⟨.inl h1, fun f hf => by rcases List.mem_append.mp hf with hf | hf <;> first | exact h2 f hf | exact hqb f hf e h1⟩
          · exact .inl (.inr h1)
          · exact .inr ⟨.inr h1, fun f hf => by rcases List.mem_append.mp hf with hf | hf <;> first | exact hsa e h1 f hf | exact h2 f hf⟩
        · rintro ((h1 | h1) | ⟨h1 | h1, h2⟩)
          · exact .inl (.inl h1)
          · exact .inr (.inl h1)
          · exact .inl (.inr ⟨h1, fun f hf => h2 f (List.mem_append.mpr (.inl hf))⟩)
          · exact .inr (.inr ⟨h1, fun f hf => h2 f (List.mem_append.mpr (.inr hf))⟩)
    · rw [mg_gt h]
      obtain ⟨i1, i2, i3, i4, i5⟩ := mg_all n (a := q :: a) (b := b) (by simp at hn ⊢; omega) ha hb.tail
      have hlow : ∀ t ∈ q :: a, s.1 < t.1 := fun t ht => by rcases List.mem_cons.mp ht with rfl | ht <;> first | exact h | exact UInt8.lt_trans h (hqa t ht)
      refine ⟨i1.cons (fun t ht => ?_) (hb.each s List.mem_cons_self), fun t ht => ?_, fun e => ?_, by simp at i4 ⊢; omega, by simp; omega⟩
      · rcases i2 t ht with ⟨u, hu, e⟩ | ⟨u, hu, e⟩
        · rw [← e]; exact hlow u hu
        · rw [← e]; exact hsb u hu
      · rcases List.mem_cons.mp ht with rfl | ht
        · exact .inr ⟨t, List.mem_cons_self, rfl⟩
        · rcases i2 t ht with h | ⟨u, hu, e⟩
          · exact .inl h
          · exact .inr ⟨u, List.mem_cons_of_mem _ hu, e⟩
      · rw [flatG_cons, List.mem_append, i3 e, flatG_cons s b, List.mem_append]
        have hsa : ∀ e ∈ flatG (q :: a), ∀ f ∈ s.2, f.1 ≠ e.1 := fun e he f hf => by
          obtain ⟨t, ht, het⟩ := mem_flatG.mp he
          exact GP.apart ha hb ht List.mem_cons_self (UInt8.ne_of_lt (hlow t ht)).symm het hf
        constructor
        · rintro (h1 | h1 | ⟨h1, h2⟩)
          · exact .inl (.inl h1)
          · exact .inl (.inr h1)
          · exact .inr ⟨h1, fun f hf => by rcases List.mem_append.mp hf with hf | hf <;> first | exact hsa e h1 f hf | exact h2 f hf⟩
        · rintro ((h1 | h1) | ⟨h1, h2⟩)
          · exact .inl h1
          · exact .inr (.inl h1)
          · exact .inr (.inr ⟨h1, fun f hf => h2 f (List.mem_append.mpr (.inr hf))⟩)

/-- What a tree is to a node of the prefix c: its value there, its groups. -/
structure View (c : List UInt8) (ov : Option V) (a : List (Grp V)) (l : List (List UInt8 × V)) : Prop where
  gp : GP c a
  eq : l = ownL c ov ++ flatG a
theorem View.mem {c : List UInt8} {ov : Option V} {a : List (Grp V)} {l : List (List UInt8 × V)} (h : View c ov a l) {e : List UInt8 × V} : e ∈ l ↔ (e.1 = c ∧ ov = some e.2) ∨ e ∈ flatG a := by
  rw [h.eq, List.mem_append, mem_ownL]
theorem View.srt {c : List UInt8} {ov : Option V} {a : List (Grp V)} {l : List (List UInt8 × V)} (h : View c ov a l) : Srt l := by
  rw [h.eq]; exact h.gp.to.srtAll ov
theorem GP.front {p : List UInt8} {a : List (Grp V)} (h : GP p a) {e : List UInt8 × V} (he : e ∈ flatG a) : e.1 ≠ p := by
  obtain ⟨q, hq, he⟩ := mem_flatG.mp he
  obtain ⟨r, hr⟩ := (h.each q hq).2.2 e he
  rw [hr]; exact app_ne
/-- The node itself, seen from its prefix. -/
theorem Shaped.view {p xs : List UInt8} {ov : Option V} {gs : List (List (List UInt8 × V))} {l : List (List UInt8 × V)} (h : Shaped p ov xs gs l) : View p ov (xs.zip gs) l :=
  ⟨GP.of h.grps, by rw [h.eq]; unfold flatG; rw [zip_snd h.grps.len]⟩
/-- One branch, seen from further ahead. -/
theorem view_one {c : List UInt8} {y : UInt8} {l : List (List UInt8 × V)} (hs : Srt l) (hl : l ≠ []) (hp : ∀ e ∈ l, ∃ r, e.1 = c ++ y :: r) : View c none [(y, l)] l :=
  ⟨⟨by simp, fun q hq => by simp at hq; subst hq; exact ⟨hl, hs, hp⟩⟩, by simp [flatG, ownL]⟩
theorem View.uni {c : List UInt8} {o1 o2 : Option V} {a b : List (Grp V)} {l m : List (List UInt8 × V)} (h1 : View c o1 a l) (h2 : View c o2 b m) : View c (o2.or o1) (mg a b) (uni l m) := by
  obtain ⟨g1, g2, g3, _, _⟩ := mg_all _ (Nat.le_refl _) h1.gp h2.gp
  refine ⟨g1, ?_⟩
  refine (uni_eq h1.srt h2.srt (g1.to.srtAll _) fun e => ?_).symm
  show e ∈ ownL c (o2.or o1) ++ flatG (mg a b) ↔ _
  rw [List.mem_append, mem_ownL, g3 e, h1.mem, h2.mem]
  constructor
  · rintro (⟨e1, e2⟩ | e1 | ⟨e1, e2⟩)
    · cases o2 with
      | some v => exact .inl (.inl ⟨e1, e2⟩)
      | none =>
        refine .inr ⟨.inl ⟨e1, e2⟩, fun q hq => ?_⟩
        rcases h2.mem.mp hq with ⟨_, h⟩ | h
        · cases h
        · rw [e1]; exact h2.gp.front h
    · exact .inl (.inr e1)
    · refine .inr ⟨.inr e1, fun q hq => ?_⟩
      rcases h2.mem.mp hq with ⟨h, _⟩ | h
      · rw [h]; exact fun e => h1.gp.front e1 e.symm
      · exact e2 q h
  · rintro ((⟨e1, e2⟩ | e1) | ⟨⟨e1, e2⟩ | e1, e3⟩)
    · exact .inl ⟨e1, by rw [e2]; rfl⟩
    · exact .inr (.inl e1)
    · refine .inl ⟨e1, ?_⟩
      cases o2 with
      | some v => exact absurd e1.symm (e3 (c, v) (h2.mem.mpr (.inl ⟨rfl, rfl⟩)))
      | none => exact e2
    · exact .inr (.inr ⟨e1, fun q hq => e3 q (h2.mem.mpr (.inr hq))⟩)
theorem View.shaped {c : List UInt8} {ov : Option V} {a : List (Grp V)} {l : List (List UInt8 × V)} (h : View c ov a l) (h2 : ov = none → 2 ≤ a.length) : Shaped c ov (a.map (·.1)) (a.map (·.2)) l :=
  ⟨h.gp.to, h.eq, fun h0 => by rw [List.length_map]; exact h2 h0⟩
end

end Go.Proofs.Ytcgjppacnhmjlaa
end

section
set_option linter.unusedVariables false
set_option linter.unusedSimpArgs false
set_option linter.unusedSectionVars false
set_option linter.unusedVariables false
set_option linter.unusedSimpArgs false
namespace Go.Proofs.Ytcgjppacnhmjlaa
open Go.RowKit
attribute [local go_sem ↓] Go.wp_at_zero Go.wp_at_succ

/-- The trees at the blocks cs are those of the groups. -/
def Kids (S : Nat → Prop) (n : Nat) (w : World) (cs : List Nat) (a : List (Grp Plc)) : Prop :=
  cs.length = a.length ∧ ∀ (i c : Nat) q, cs[i]? = some c → a[i]? = some q → RepN S n w c q.2
section
variable {S S' : Nat → Prop} {n m : Nat} {w w' : World} {cs ds : List Nat} {a b : List (Grp Plc)}
theorem Kids.on (h : Kids S n w cs a) (hb : Below w.heap.size w w') : Kids S n w' cs a := ⟨h.1, fun i c q h1 h2 => (h.2 i c q h1 h2).on hb⟩
theorem Kids.fuel (h : Kids S n w cs a) (hnm : n ≤ m) : Kids S m w cs a := ⟨h.1, fun i c q h1 h2 => (h.2 i c q h1 h2).fuel hnm⟩
theorem Kids.weaken (h : Kids S n w cs a) (hS : ∀ k, S k → k < w.heap.size → S' k) : Kids S' n w cs a := ⟨h.1, fun i c q h1 h2 => (h.2 i c q h1 h2).weaken hS⟩
theorem Kids.frame (h : Kids S n w cs a) (hk : Kept S w w') : Kids S n w' cs a := ⟨h.1, fun i c q h1 h2 => (h.2 i c q h1 h2).frame hk⟩
theorem Kids.nil : Kids S n w [] ([] : List (Grp Plc)) := ⟨rfl, fun i c q h => by simp at h⟩
theorem Kids.one {c : Nat} {q : Grp Plc} (h : RepN S n w c q.2) : Kids S n w [c] [q] := ⟨rfl, fun i d r h1 h2 => by
  cases i with
  | zero => simp at h1 h2; subst h1; subst h2; exact h
  | succ i => simp at h1⟩
theorem Kids.head {c : Nat} {q : Grp Plc} (h : Kids S n w (c :: cs) (q :: a)) : RepN S n w c q.2 := h.2 0 c q rfl rfl
theorem Kids.tail {c : Nat} {q : Grp Plc} (h : Kids S n w (c :: cs) (q :: a)) : Kids S n w cs a := ⟨by have := h.1; simpa using this, fun i d r h1 h2 => h.2 (i + 1) d r h1 h2⟩
theorem Kids.append (h : Kids S n w cs a) (h2 : Kids S n w ds b) : Kids S n w (cs ++ ds) (a ++ b) := by
  refine ⟨by simp [h.1, h2.1], fun i c q hc hq => ?_⟩
  rw [List.getElem?_append] at hc hq
  rw [h.1] at hc
  by_cases hi : i < a.length
  · rw [if_pos hi] at hc hq; exact h.2 i c q hc hq
  · rw [if_neg hi] at hc hq; exact h2.2 _ c q hc hq
theorem Kids.of {xs : List UInt8} {gs : List (List KV)} (hl : cs.length = gs.length) (hx : xs.length = gs.length) (h : ∀ (i c : Nat) g, cs[i]? = some c → gs[i]? = some g → RepN S n w c g) : Kids S n w cs (xs.zip gs) := by
  refine ⟨by simp [hl, hx], fun i c q hc hq => ?_⟩
  obtain ⟨_, hg⟩ := List.getElem?_zip_eq_some.mp hq
  exact h i c _ hc hg
theorem Kids.to (h : Kids S n w cs a) : cs.length = (a.map (·.2)).length ∧ ∀ (i c : Nat) g, cs[i]? = some c → (a.map (·.2))[i]? = some g → RepN S n w c g := by
  refine ⟨by simp [h.1], fun i c g hc hg => ?_⟩
  rw [List.getElem?_map, Option.map_eq_some_iff] at hg
  obtain ⟨q, hq, rfl⟩ := hg
  exact h.2 i c q hc hq
end

set_option maxRecDepth 100000 in
/-- The tree itself, one branch. -/
theorem seen_over {w : World} {t k : Nat} {pre : ByteArray} (hpc : w.cell? ⟨t, 0, none⟩ = some (.string pre)) (hp : pre.size ≤ 64) (hk : k < pre.size) :
    Calls Try.prog 89 #[.pointer (some ⟨t, 0, none⟩), .int .i64 k] w fun e w' => e = .returned (.tuple #[.pointer none, .slice (some ⟨w.heap.size, 0, none⟩) 1 1]) ∧ w' = w.alloc (.cells #[.pointer (some ⟨t, 0, none⟩)] 93) := by
  have h1 : (k : Int) < (pre.size : Int) := by omega
  go_enter Try.func89, Try.ntmps89
  go_wp2
  go_ret2
  exact ⟨rfl, rfl⟩
set_option maxRecDepth 100000 in
/-- The node's own. -/
theorem seen_own {w : World} {t k : Nat} {pre : ByteArray} {vp : Option Addr} {bv : Value} (hpc : w.cell? ⟨t, 0, none⟩ = some (.string pre)) (hvc : w.cell? ⟨t, 1, none⟩ = some (.pointer vp)) (hbc : w.cell? ⟨t, 2, none⟩ = some bv) (hp : pre.size ≤ 64) (hk : k = pre.size) :
    Calls Try.prog 89 #[.pointer (some ⟨t, 0, none⟩), .int .i64 k] w fun e w' => e = .returned (.tuple #[.pointer vp, bv]) ∧ ∃ n, w' = w.drewN n := by
  subst hk
  have h1 : ¬ (pre.size : Int) < (pre.size : Int) := by omega
  go_enter Try.func89, Try.ntmps89
  go_wp2_with fail
  go_quiet (fail)
  go_wp2_with fail
  go_ret2
  exact ⟨rfl, _, rfl⟩

end Go.Proofs.Ytcgjppacnhmjlaa
end

section
set_option linter.unusedVariables false
set_option linter.unusedSimpArgs false
set_option linter.unusedSectionVars false
set_option linter.unusedVariables false
set_option linter.unusedSimpArgs false
namespace Go.Proofs.Ytcgjppacnhmjlaa
open Go.RowKit
attribute [local go_sem ↓] Go.wp_at_zero Go.wp_at_succ

theorem but_setCells (g : Nat) : ∀ (vs : List Value) (o : Nat) (w : World), But g w (w.setCells g o vs)
  | [], _, w => ⟨rfl, rfl, rfl, Nat.le_refl _, fun _ _ _ => rfl⟩
  | v :: r, o, w => by
    have h1 : But g w (w.setCell ⟨g, o, none⟩ v) := ⟨rfl, rfl, rfl, by simp [World.setCell], fun k _ hx => Below.heap_setCell _ _ _ _ hx⟩
    exact h1.trans (but_setCells g r (o + 1) _)
/-- The row that is being made, and what lies in it. -/
structure Both (w : World) (g C : Nat) (es : List Nat) : Prop where
  br : BrAt w g 0 es
  room : ∀ j, j < C → (w.cell? ⟨g, j, none⟩).isSome = true ∧ w.frozen? ⟨g, j, none⟩ = false
  cap : es.length ≤ C
theorem Both.of {w : World} {base g C : Nat} (h : w.ownsRow base 93 1 (.slice (some ⟨g, 0, none⟩) 0 C) 0 []) : Both w g C [] := by
  rcases h.2 with ⟨h1, _⟩ | ⟨g', cap, cur, h3, h4, h5, h6, h7, h8, h9⟩
  · cases h1
  · cases h3
    refine ⟨fun i c h => by simp at h, fun j hj => ⟨?_, by simp [World.frozen?, h5]⟩, Nat.zero_le _⟩
    simp only [World.cell?, h5]
    rw [Array.getElem?_eq_getElem (by omega)]; rfl
theorem Both.on {w w' : World} {g C : Nat} {es : List Nat} (h : Both w g C es) (hb : Below w.heap.size w w') : Both w' g C es := by
  refine ⟨h.br.later hb, fun j hj => ?_, h.cap⟩
  obtain ⟨h1, h2⟩ := h.room j hj
  obtain ⟨u, hu⟩ := Option.isSome_iff_exists.1 h1
  have hlt := World.block_lt_of_cell? _ _ hu
  have he := hb.block g hlt
  exact ⟨by rw [cell_later hb hu]; rfl, by rw [← h2]; simp [World.frozen?, he]⟩
theorem Both.put {w : World} {g C : Nat} {es : List Nat} (h : Both w g C es) (ns : List Nat) (hc : es.length + ns.length ≤ C) : Both (w.setCells g es.length (ns.map ptr)) g C (es ++ ns) := by
  refine ⟨fun i c hi => ?_, fun j hj => ⟨?_, ?_⟩, by simp; omega⟩
  · rw [Nat.zero_add]
    rw [List.getElem?_append] at hi
    by_cases hl : i < es.length
    · rw [if_pos hl] at hi
      rw [World.cell?_setCells_out g _ _ _ _ (fun _ _ => .inl hl)]
      have := h.br i c hi
      rwa [Nat.zero_add] at this
    · rw [if_neg hl] at hi
      have hlt := (List.getElem?_eq_some_iff.mp hi).1
      have := World.cell?_setCells_in g (ns.map ptr) es.length w (fun j hj => (h.room _ (by simp at hj; omega)).1) (i - es.length) (by simpa using hlt)
      rw [show es.length + (i - es.length) = i by omega] at this
      rw [this]
      have h2 := (List.getElem?_eq_some_iff.mp hi).2
      simp [ptr, h2]
  · by_cases hl : j < es.length ∨ es.length + ns.length ≤ j
    · rw [World.cell?_setCells_out g _ _ _ _ (fun _ _ => by simpa using hl)]
      exact (h.room j hj).1
    · have := World.cell?_setCells_in g (ns.map ptr) es.length w (fun j hj => (h.room _ (by simp at hj; omega)).1) (j - es.length) (by simp; omega)
      rw [show es.length + (j - es.length) = j by omega] at this
      rw [this]; rfl
  · rw [World.frozen?_setCells]; exact (h.room j hj).2

theorem step_append_room {P : Program} {ops : Array Oper} {o : Oper} {a : Act} {w : World} {K : Act → World → Prop} {Q : Exit → Act → World → Prop} {E : Prop}
    (hg : o.guard = none) (s x : Operand) (t : TypeId) (hop : o.op = Op.call { callee := Callee.builtin Builtin.append, args := #[s, x], argTypes := #[t, t] })
    (e : TypeId) (i : TypeInfo) (h1 : P.underlying t = some (.slice e)) (h2 : P.info? e = some i) (h4 : i.size = 1)
    (g n C : Nat) (hs : a.eval s = .slice (some ⟨g, 0, none⟩) n C) (ad : Addr) (m c : Nat) (news : List Value) (hx : a.eval x = .slice (some ad) m c) (hn : news.length = m) (hc : ∀ j u, news[j]? = some u → w.cell? (ad.add j) = some u) (h1c : ∀ u ∈ news, u.oneCell' = true)
    (hroom : n + m ≤ C) (hB : ∀ j, j < C → (w.cell? ⟨g, j, none⟩).isSome = true ∧ w.frozen? ⟨g, j, none⟩ = false)
    (hK : K (a.put o.dst (.slice (some ⟨g, 0, none⟩) (n + m) C)) (w.setCells g n news)) :
    if Region.wanted o (yielded ops a.tmps) = true then Oper.wp P o a w K Q else E := by
  have hw : Region.wanted o (yielded ops a.tmps) = true := by simp [Region.wanted, hg]
  rw [if_pos hw]
  have hrun := run_append_room_src (P := P) w t t o.type e i h1 h2 g 0 n C (.slice (some ad) m c) m news (Src.ofSlice w h1 ad m c news (by rw [hn, h4, Nat.mul_one]) hc h1c) hroom (fun j hj => by rw [h4]; exact (hB _ (by omega)).1) (fun j hj => by rw [h4]; exact (hB _ (by omega)).2)
  rw [h4, Nat.zero_add, Nat.mul_one] at hrun
  unfold Oper.wp
  simp [execOp, hop, resolve, invoke, builtin, hs, hx, hrun, Result.andThen]
  exact hK

theorem wpList_append_room {P : Program} {ops : Array Oper} {rest : List Oper} {o : Oper} {a : Act} {w : World} {Q : Exit → Act → World → Prop} (hg : o.guard = none) (s x : Operand) (t : TypeId) (hop : o.op = Op.call { callee := Callee.builtin Builtin.append, args := #[s, x], argTypes := #[t, t] })
    (e : TypeId) (i : TypeInfo) (h1 : P.underlying t = some (.slice e)) (h2 : P.info? e = some i) (h4 : i.size = 1)
    (g n C : Nat) (hs : a.eval s = .slice (some ⟨g, 0, none⟩) n C) (ad : Addr) (m c : Nat) (news : List Value) (hx : a.eval x = .slice (some ad) m c) (hn : news.length = m) (hc : ∀ j u, news[j]? = some u → w.cell? (ad.add j) = some u) (h1c : ∀ u ∈ news, u.oneCell' = true)
    (hroom : n + m ≤ C) (hB : ∀ j, j < C → (w.cell? ⟨g, j, none⟩).isSome = true ∧ w.frozen? ⟨g, j, none⟩ = false)
    (hK : wpList P ops Q rest (a.put o.dst (.slice (some ⟨g, 0, none⟩) (n + m) C)) (w.setCells g n news)) : wpList P ops Q (o :: rest) a w :=
  wpList_plain hg fun _ hK2 => by
    have hrun := run_append_room_src (P := P) w t t o.type e i h1 h2 g 0 n C (.slice (some ad) m c) m news (Src.ofSlice w h1 ad m c news (by rw [hn, h4, Nat.mul_one]) hc h1c) hroom (fun j hj => by rw [h4]; exact (hB _ (by omega)).1) (fun j hj => by rw [h4]; exact (hB _ (by omega)).2)
    rw [h4, Nat.zero_add, Nat.mul_one] at hrun
    unfold Oper.wp
    simp [execOp, hop, resolve, invoke, builtin, hs, hx, hrun, Result.andThen]
    exact hK2 _ _ hK

/-- A list that is still to be gone through. -/
structure Lst (g : Nat) (w : World) (k o cap : Nat) (cs : List Nat) : Prop where
  fits : cs.length ≤ cap
  most : cap ≤ maxLen
  br : BrAt w k o cs
  ne : k ≠ g
theorem Lst.on {g : Nat} {w w' : World} {k o cap : Nat} {cs : List Nat} (h : Lst g w k o cap cs) (hb : Below w.heap.size w w') : Lst g w' k o cap cs := ⟨h.fits, h.most, h.br.later hb, h.ne⟩
theorem BrAt.but {g : Nat} {w w' : World} {k o : Nat} {cs : List Nat} (h : BrAt w k o cs) (hb : But g w w') (hne : k ≠ g) : BrAt w' k o cs := fun i c h1 => by
  have := h i c h1
  exact (World.cell?_of_block (w := w) (a := ⟨k, o + i, none⟩) (hb.block k (World.block_lt_of_cell? _ _ this) hne)).trans this
theorem Lst.but {g : Nat} {w w' : World} {k o cap : Nat} {cs : List Nat} (h : Lst g w k o cap cs) (hb : But g w w') : Lst g w' k o cap cs := ⟨h.fits, h.most, h.br.but hb h.ne, h.ne⟩
theorem Lst.tail {g : Nat} {w : World} {k o cap c : Nat} {cs : List Nat} (h : Lst g w k o cap (c :: cs)) : Lst g w k (if cap = 1 then o else o + 1) (cap - 1) cs := by
  have h1 := h.fits
  have h2 := h.most
  simp at h1
  refine ⟨by omega, by omega, fun i d hd => ?_, h.ne⟩
  have := h.br (i + 1) d hd
  by_cases e : cap = 1
  · exfalso
    have : cs.length = 0 := by omega
    rw [List.length_eq_zero_iff.mp this] at hd; simp at hd
  · rw [if_neg e, show o + 1 + i = o + (i + 1) by omega]; exact this

/-- How far the two lists are gone through, and what is made. -/
structure MS (S : Nat → Prop) (w : World) (g C n1 n2 K : Nat) (c : List UInt8) (A : List (Grp Plc)) (cs ds es : List Nat) (a b d : List (Grp Plc)) (k0 o0 p0 k1 o1 p1 : Nat) (wr : World) : Prop where
  l0 : Lst g wr k0 o0 p0 cs
  l1 : Lst g wr k1 o1 p1 ds
  q0 : Kids (fun k => S k ∧ k ≠ g) n1 wr cs a
  q1 : Kids (fun k => S k ∧ k ≠ g) n2 wr ds b
  qd : Kids (fun k => S k ∧ k ≠ g) K wr es d
  bo : Both wr g C es
  cap : es.length + cs.length + ds.length ≤ C
  eq : d ++ mg a b = A
  g0 : GP c a
  g1 : GP c b
  sm : (flatG a).length + (flatG b).length ≤ 1000000
  bel : Below w.heap.size w wr
  hg : w.heap.size ≤ g ∧ g < wr.heap.size
section
variable {S : Nat → Prop} {w wr w' : World} {g C n1 n2 K : Nat} {c : List UInt8} {A : List (Grp Plc)} {cs ds es : List Nat} {a b d : List (Grp Plc)} {k0 o0 p0 k1 o1 p1 : Nat}
theorem MS.on (h : MS S w g C n1 n2 K c A cs ds es a b d k0 o0 p0 k1 o1 p1 wr) (hb : Below wr.heap.size wr w') : MS S w g C n1 n2 K c A cs ds es a b d k0 o0 p0 k1 o1 p1 w' :=
  ⟨h.l0.on hb, h.l1.on hb, h.q0.on hb, h.q1.on hb, h.qd.on hb, h.bo.on hb, h.cap, h.eq, h.g0, h.g1, h.sm, h.bel.trans (hb.mono h.bel.size), h.hg.1, Nat.lt_of_lt_of_le h.hg.2 hb.size⟩
theorem MS.kept (hb : But g wr w') : Kept (fun k => (S k ∧ k ≠ g) ∧ k < wr.heap.size) wr w' := fun k hk => hb.block k hk.2 hk.1.2
theorem Kids.but (h : Kids (fun k => S k ∧ k ≠ g) n1 wr cs a) (hb : But g wr w') : Kids (fun k => S k ∧ k ≠ g) n1 w' cs a := by
  have h1 : Kids (fun k => (S k ∧ k ≠ g) ∧ k < wr.heap.size) n1 wr cs a := h.weaken fun k h1 h2 => ⟨h1, h2⟩
  exact (h1.frame (MS.kept hb)).weaken fun k h1 _ => h1.1
theorem MS.bow (h : MS S w g C n1 n2 K c A cs ds es a b d k0 o0 p0 k1 o1 p1 wr) (hb : But g wr w') : Below w.heap.size w w' :=
  h.bel.trans ⟨hb.os, hb.tape, hb.output, hb.size, fun k hk => hb.block k (Nat.lt_of_lt_of_le hk h.bel.size) (by have := h.hg.1; omega)⟩
end

end Go.Proofs.Ytcgjppacnhmjlaa
end
