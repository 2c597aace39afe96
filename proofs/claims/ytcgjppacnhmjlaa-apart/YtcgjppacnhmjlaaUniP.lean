/- Two sorted lists of pairs made one, and two lists of groups made one: no program in it. -/
import Derived.Test.YtcgjppacnhmjlaaWith
import Derived.Test.YtcgjppacnhmjlaaPureD
set_option linter.unusedVariables false
set_option linter.unusedSimpArgs false
namespace Go.Proofs.Ytcgjppacnhmjlaa
section
variable {V : Type}
/-- The pairs of both; where both have a key, the second one's. -/
def uni (l m : List (List UInt8 × V)) : List (List UInt8 × V) := m.foldl (fun a e => ins e.1 e.2 a) l
theorem uni_nil (l : List (List UInt8 × V)) : uni l [] = l := rfl
theorem srt_uni {l m : List (List UInt8 × V)} (h : Srt l) : Srt (uni l m) := by
  induction m generalizing l with
  | nil => exact h
  | cons p m ih => exact ih (srt_ins h)
theorem mem_uni {l m : List (List UInt8 × V)} (hm : Srt m) {e : List UInt8 × V} : e ∈ uni l m ↔ e ∈ m ∨ (e ∈ l ∧ ∀ q ∈ m, q.1 ≠ e.1) := by
  induction m generalizing l with
  | nil => simp [uni]
  | cons p m ih =>
    obtain ⟨h1, h2⟩ := List.pairwise_cons.mp hm
    have := ih (l := ins p.1 p.2 l) h2
    show e ∈ uni (ins p.1 p.2 l) m ↔ _
    rw [this, mem_ins]
    constructor
    · rintro (h | ⟨rfl | ⟨h3, h4⟩, h5⟩)
      · exact .inl (List.mem_cons_of_mem _ h)
      · exact .inl (List.mem_cons_self)
      · exact .inr ⟨h3, fun q hq => by rcases List.mem_cons.mp hq with rfl | hq <;> first | exact fun e => h4 e.symm | exact h5 q hq⟩
    · rintro (h | ⟨h3, h4⟩)
      · rcases List.mem_cons.mp h with rfl | h
        · exact .inr ⟨.inl rfl, fun q hq e => by have := h1 q hq; rw [e] at this; exact klt_irrefl _ this⟩
        · exact .inl h
      · exact .inr ⟨.inr ⟨h3, fun e => h4 p (List.mem_cons_self) e.symm⟩, fun q hq => h4 q (List.mem_cons_of_mem _ hq)⟩
theorem uni_eq {l m r : List (List UInt8 × V)} (hl : Srt l) (hm : Srt m) (hr : Srt r) (h : ∀ e, e ∈ r ↔ e ∈ m ∨ (e ∈ l ∧ ∀ q ∈ m, q.1 ≠ e.1)) : r = uni l m :=
  Srt.ext hr (srt_uni hl) fun e => (h e).trans (mem_uni hm).symm
theorem nil_uni {m : List (List UInt8 × V)} (hm : Srt m) : uni [] m = m := (uni_eq List.Pairwise.nil hm hm (fun e => by simp)).symm
theorem uni_self {m : List (List UInt8 × V)} (hm : Srt m) : uni m m = m := by
  refine (uni_eq hm hm hm (fun e => ?_)).symm
  constructor
  · exact .inl
  · rintro (h | ⟨h, _⟩) <;> exact h
theorem len_uni_le {l m : List (List UInt8 × V)} (hl : Srt l) : (uni l m).length ≤ l.length + m.length := by
  induction m generalizing l with
  | nil => exact Nat.le_refl _
  | cons p m ih =>
    have h1 := ih (l := ins p.1 p.2 l) (srt_ins hl)
    have h2 := len_ins_le p.1 p.2 l hl
    show (uni (ins p.1 p.2 l) m).length ≤ _
    simp; omega
theorem ne_uni {l m : List (List UInt8 × V)} (hm : Srt m) (h : m ≠ []) : uni l m ≠ [] := by
  obtain ⟨e, he⟩ := List.exists_mem_of_ne_nil _ h
  exact List.ne_nil_of_mem ((mem_uni hm).mpr (.inl he))

abbrev Grp (V : Type) := UInt8 × List (List UInt8 × V)
/-- Groups behind the prefix p, in the order of their bytes. -/
structure GP (p : List UInt8) (a : List (Grp V)) : Prop where
  pw : a.Pairwise fun x y => x.1 < y.1
  each : ∀ q ∈ a, q.2 ≠ [] ∧ Srt q.2 ∧ ∀ e ∈ q.2, ∃ r, e.1 = p ++ q.1 :: r
def flatG (a : List (Grp V)) : List (List UInt8 × V) := (a.map (·.2)).flatten
theorem mem_flatG {a : List (Grp V)} {e : List UInt8 × V} : e ∈ flatG a ↔ ∃ q ∈ a, e ∈ q.2 := by
  unfold flatG; rw [List.mem_flatten]
  constructor
  · rintro ⟨g, hg, he⟩; obtain ⟨q, hq, rfl⟩ := List.mem_map.mp hg; exact ⟨q, hq, he⟩
  · rintro ⟨q, hq, he⟩; exact ⟨q.2, List.mem_map.mpr ⟨q, hq, rfl⟩, he⟩
theorem flatG_cons (q : Grp V) (a : List (Grp V)) : flatG (q :: a) = q.2 ++ flatG a := rfl
theorem GP.to {p : List UInt8} {a : List (Grp V)} (h : GP p a) : Grps p (a.map (·.1)) (a.map (·.2)) := by
  refine ⟨by simp, List.pairwise_map.mpr h.pw, fun i g hg => ?_, fun i x g hx hg => ?_, fun i g hg => ?_⟩
  · rw [List.getElem?_map, Option.map_eq_some_iff] at hg
    obtain ⟨q, hq, rfl⟩ := hg
    exact (h.each q (List.mem_of_getElem? hq)).1
  · rw [List.getElem?_map, Option.map_eq_some_iff] at hg hx
    obtain ⟨q, hq, rfl⟩ := hg
    obtain ⟨q', hq', rfl⟩ := hx
    rw [hq] at hq'; cases hq'
    exact (h.each q (List.mem_of_getElem? hq)).2.2
  · rw [List.getElem?_map, Option.map_eq_some_iff] at hg
    obtain ⟨q, hq, rfl⟩ := hg
    exact (h.each q (List.mem_of_getElem? hq)).2.1
theorem GP.of {p xs : List UInt8} {gs : List (List (List UInt8 × V))} (h : Grps p xs gs) : GP p (xs.zip gs) := by
  refine ⟨?_, fun q hq => ?_⟩
  · have h1 : ((xs.zip gs).map (·.1)).Pairwise (· < ·) := by rw [List.map_fst_zip (by rw [h.len]; exact Nat.le_refl _)]; exact h.pw
    exact List.pairwise_map.mp h1
  · obtain ⟨i, hi, e⟩ := List.getElem_of_mem hq
    have h2 : (xs.zip gs)[i]? = some q := by rw [List.getElem?_eq_getElem hi, e]
    obtain ⟨hx, hg⟩ := List.getElem?_zip_eq_some.mp h2
    exact ⟨h.some' i _ hg, h.srt i _ hg, h.pre i _ _ hx hg⟩
theorem zip_fst {xs : List UInt8} {gs : List (List (List UInt8 × V))} (h : xs.length = gs.length) : (xs.zip gs).map (·.1) = xs := List.map_fst_zip (by rw [h]; exact Nat.le_refl _)
theorem zip_snd {xs : List UInt8} {gs : List (List (List UInt8 × V))} (h : xs.length = gs.length) : (xs.zip gs).map (·.2) = gs := List.map_snd_zip (by rw [h]; exact Nat.le_refl _)

/-- Groups of both; behind the same byte they are made one. -/
def mg : List (Grp V) → List (Grp V) → List (Grp V)
  | [], b => b
  | a, [] => a
  | q :: a, s :: b => if q.1 < s.1 then q :: mg a (s :: b) else if s.1 < q.1 then s :: mg (q :: a) b else (q.1, uni q.2 s.2) :: mg a b
termination_by a b => a.length + b.length
theorem mg_nil (a : List (Grp V)) : mg a [] = a := by cases a <;> simp [mg]
theorem nil_mg (a : List (Grp V)) : mg [] a = a := by simp [mg]
theorem mg_lt {q s : Grp V} {a b : List (Grp V)} (h : q.1 < s.1) : mg (q :: a) (s :: b) = q :: mg a (s :: b) := by rw [mg, if_pos h]
theorem mg_gt {q s : Grp V} {a b : List (Grp V)} (h : s.1 < q.1) : mg (q :: a) (s :: b) = s :: mg (q :: a) b := by
  rw [mg, if_neg (fun h2 => UInt8.lt_irrefl _ (UInt8.lt_trans h h2)), if_pos h]
theorem mg_eq {q s : Grp V} {a b : List (Grp V)} (h : q.1 = s.1) : mg (q :: a) (s :: b) = (q.1, uni q.2 s.2) :: mg a b := by
  rw [mg, if_neg (by rw [h]; exact UInt8.lt_irrefl _), if_neg (by rw [h]; exact UInt8.lt_irrefl _)]
theorem u8_tri (x y : UInt8) : x < y ∨ x = y ∨ y < x := by
  rcases Nat.lt_trichotomy x.toNat y.toNat with h | h | h
  · exact .inl h
  · exact .inr (.inl (UInt8.toNat_inj.mp h))
  · exact .inr (.inr h)
theorem GP.tail {p : List UInt8} {q : Grp V} {a : List (Grp V)} (h : GP p (q :: a)) : GP p a := ⟨(List.pairwise_cons.mp h.pw).2, fun s hs => h.each s (List.mem_cons_of_mem _ hs)⟩
theorem GP.cons {p : List UInt8} {q : Grp V} {a : List (Grp V)} (h : GP p a) (h1 : ∀ s ∈ a, q.1 < s.1) (h2 : q.2 ≠ [] ∧ Srt q.2 ∧ ∀ e ∈ q.2, ∃ r, e.1 = p ++ q.1 :: r) : GP p (q :: a) :=
  ⟨List.pairwise_cons.mpr ⟨h1, h.pw⟩, fun s hs => by rcases List.mem_cons.mp hs with rfl | hs <;> first | exact h2 | exact h.each s hs⟩
/-- Keys of groups of different bytes are different. -/
theorem GP.apart {p : List UInt8} {a b : List (Grp V)} (ha : GP p a) (hb : GP p b) {q s : Grp V} (hq : q ∈ a) (hs : s ∈ b) (hne : q.1 ≠ s.1) {e f : List UInt8 × V} (he : e ∈ q.2) (hf : f ∈ s.2) : f.1 ≠ e.1 := by
  obtain ⟨r, hr⟩ := (ha.each q hq).2.2 e he
  obtain ⟨t, ht⟩ := (hb.each s hs).2.2 f hf
  intro e1
  rw [hr, ht] at e1
  exact hne (app_inj e1).1.symm
theorem mg_all {p : List UInt8} : ∀ (n : Nat) {a b : List (Grp V)}, a.length + b.length ≤ n → GP p a → GP p b →
    GP p (mg a b) ∧ (∀ q ∈ mg a b, (∃ s ∈ a, s.1 = q.1) ∨ ∃ s ∈ b, s.1 = q.1) ∧ (∀ e, e ∈ flatG (mg a b) ↔ e ∈ flatG b ∨ (e ∈ flatG a ∧ ∀ q ∈ flatG b, q.1 ≠ e.1)) ∧ a.length ≤ (mg a b).length ∧ b.length ≤ (mg a b).length
  | n, [], b, _, ha, hb => by
    rw [nil_mg]
    exact ⟨hb, fun q hq => .inr ⟨q, hq, rfl⟩, fun e => by simp [flatG], by simp, Nat.le_refl _⟩
  | n, q :: a, [], _, ha, hb => by
    rw [mg_nil]
    exact ⟨ha, fun s hs => .inl ⟨s, hs, rfl⟩, fun e => by simp [flatG], Nat.le_refl _, by simp⟩
  | 0, q :: a, s :: b, hn, _, _ => by simp at hn
  | n + 1, q :: a, s :: b, hn, ha, hb => by
    have hqa := (List.pairwise_cons.mp ha.pw).1
    have hsb := (List.pairwise_cons.mp hb.pw).1
    rcases u8_tri q.1 s.1 with h | h | h
    · rw [mg_lt h]
      obtain ⟨i1, i2, i3, i4, i5⟩ := mg_all n (a := a) (b := s :: b) (by simp at hn ⊢; omega) ha.tail hb
      have hlow : ∀ t ∈ s :: b, q.1 < t.1 := fun t ht => by rcases List.mem_cons.mp ht with rfl | ht <;> first | exact h | exact UInt8.lt_trans h (hsb t ht)
      refine ⟨i1.cons (fun t ht => ?_) (ha.each q List.mem_cons_self), fun t ht => ?_, fun e => ?_, by simp; omega, by simp at i5 ⊢; omega⟩
      · rcases i2 t ht with ⟨u, hu, e⟩ | ⟨u, hu, e⟩
        · rw [← e]; exact hqa u hu
        · rw [← e]; exact hlow u hu
      · rcases List.mem_cons.mp ht with rfl | ht
        · exact .inl ⟨t, List.mem_cons_self, rfl⟩
        · rcases i2 t ht with ⟨u, hu, e⟩ | h
          · exact .inl ⟨u, List.mem_cons_of_mem _ hu, e⟩
          · exact .inr h
      · rw [flatG_cons, List.mem_append, i3 e, flatG_cons q a, List.mem_append]
        constructor
        · rintro (h1 | h1 | ⟨h1, h2⟩)
          · refine .inr ⟨.inl h1, fun f hf => ?_⟩
            obtain ⟨t, ht, hft⟩ := mem_flatG.mp hf
            exact GP.apart ha hb List.mem_cons_self ht (UInt8.ne_of_lt (hlow t ht)) h1 hft
          · exact .inl h1
          · exact .inr ⟨.inr h1, h2⟩
        · rintro (h1 | ⟨h1 | h1, h2⟩)
          · exact .inr (.inl h1)
          · exact .inl h1
          · exact .inr (.inr ⟨h1, h2⟩)
    · rw [mg_eq h]
      obtain ⟨i1, i2, i3, i4, i5⟩ := mg_all n (a := a) (b := b) (by simp at hn ⊢; omega) ha.tail hb.tail
      have hq := ha.each q List.mem_cons_self
      have hs := hb.each s List.mem_cons_self
      refine ⟨i1.cons (fun t ht => ?_) ⟨ne_uni hs.2.1 hs.1, srt_uni hq.2.1, fun e he => ?_⟩, fun t ht => ?_, fun e => ?_, by simp; omega, by simp; omega⟩
      · rcases i2 t ht with ⟨u, hu, e⟩ | ⟨u, hu, e⟩
        · rw [← e]; exact hqa u hu
        · rw [← e]; show q.1 < u.1; rw [h]; exact hsb u hu
      · rcases (mem_uni hs.2.1).mp he with h1 | ⟨h1, _⟩
        · show ∃ r, e.1 = p ++ q.1 :: r
          rw [h]; exact hs.2.2 e h1
        · exact hq.2.2 e h1
      · rcases List.mem_cons.mp ht with rfl | ht
        · exact .inl ⟨q, List.mem_cons_self, rfl⟩
        · rcases i2 t ht with ⟨u, hu, e⟩ | ⟨u, hu, e⟩
          · exact .inl ⟨u, List.mem_cons_of_mem _ hu, e⟩
          · exact .inr ⟨u, List.mem_cons_of_mem _ hu, e⟩
      · rw [flatG_cons, List.mem_append, i3 e, flatG_cons q a, flatG_cons s b, List.mem_append, List.mem_append]
        show e ∈ uni q.2 s.2 ∨ _ ↔ _
        rw [mem_uni hs.2.1]
        have hqb : ∀ f ∈ flatG b, ∀ e ∈ q.2, f.1 ≠ e.1 := fun f hf e he => by
          obtain ⟨t, ht, hft⟩ := mem_flatG.mp hf
          exact GP.apart ha hb List.mem_cons_self (List.mem_cons_of_mem _ ht) (by rw [h]; exact UInt8.ne_of_lt (hsb t ht)) he hft
        have hsa : ∀ e ∈ flatG a, ∀ f ∈ s.2, f.1 ≠ e.1 := fun e he f hf => by
          obtain ⟨t, ht, het⟩ := mem_flatG.mp he
          exact GP.apart ha hb (List.mem_cons_of_mem _ ht) List.mem_cons_self (by rw [← h]; exact (UInt8.ne_of_lt (hqa t ht)).symm) het hf
        constructor
        · rintro ((h1 | ⟨h1, h2⟩) | h1 | ⟨h1, h2⟩)
          · exact .inl (.inl h1)
          · exact .inr ⟨.inl h1, fun f hf => by rcases List.mem_append.mp hf with hf | hf <;> first | exact h2 f hf | exact hqb f hf e h1⟩
          · exact .inl (.inr h1)
          · exact .inr ⟨.inr h1, fun f hf => by rcases List.mem_append.mp hf with hf | hf <;> first | exact hsa e h1 f hf | exact h2 f hf⟩
        · rintro ((h1 | h1) | ⟨h1 | h1, h2⟩)
          · exact .inl (.inl h1)
          · exact .inr (.inl h1)
          · exact .inl (.inr ⟨h1, fun f hf => h2 f (List.mem_append.mpr (.inl hf))⟩)
          · exact .inr (.inr ⟨h1, fun f hf => h2 f (List.mem_append.mpr (.inr hf))⟩)
    · rw [mg_gt h]
      obtain ⟨i1, i2, i3, i4, i5⟩ := mg_all n (a := q :: a) (b := b) (by simp at hn ⊢; omega) ha hb.tail
      have hlow : ∀ t ∈ q :: a, s.1 < t.1 := fun t ht => by rcases List.mem_cons.mp ht with rfl | ht <;> first | exact h | exact UInt8.lt_trans h (hqa t ht)
      refine ⟨i1.cons (fun t ht => ?_) (hb.each s List.mem_cons_self), fun t ht => ?_, fun e => ?_, by simp at i4 ⊢; omega, by simp; omega⟩
      · rcases i2 t ht with ⟨u, hu, e⟩ | ⟨u, hu, e⟩
        · rw [← e]; exact hlow u hu
        · rw [← e]; exact hsb u hu
      · rcases List.mem_cons.mp ht with rfl | ht
        · exact .inr ⟨t, List.mem_cons_self, rfl⟩
        · rcases i2 t ht with h | ⟨u, hu, e⟩
          · exact .inl h
          · exact .inr ⟨u, List.mem_cons_of_mem _ hu, e⟩
      · rw [flatG_cons, List.mem_append, i3 e, flatG_cons s b, List.mem_append]
        have hsa : ∀ e ∈ flatG (q :: a), ∀ f ∈ s.2, f.1 ≠ e.1 := fun e he f hf => by
          obtain ⟨t, ht, het⟩ := mem_flatG.mp he
          exact GP.apart ha hb ht List.mem_cons_self (UInt8.ne_of_lt (hlow t ht)).symm het hf
        constructor
        · rintro (h1 | h1 | ⟨h1, h2⟩)
          · exact .inl (.inl h1)
          · exact .inl (.inr h1)
          · exact .inr ⟨h1, fun f hf => by rcases List.mem_append.mp hf with hf | hf <;> first | exact hsa e h1 f hf | exact h2 f hf⟩
        · rintro ((h1 | h1) | ⟨h1, h2⟩)
          · exact .inl h1
          · exact .inr (.inl h1)
          · exact .inr (.inr ⟨h1, fun f hf => h2 f (List.mem_append.mpr (.inr hf))⟩)

/-- What a tree is to a node of the prefix c: its value there, its groups. -/
structure View (c : List UInt8) (ov : Option V) (a : List (Grp V)) (l : List (List UInt8 × V)) : Prop where
  gp : GP c a
  eq : l = ownL c ov ++ flatG a
theorem View.mem {c : List UInt8} {ov : Option V} {a : List (Grp V)} {l : List (List UInt8 × V)} (h : View c ov a l) {e : List UInt8 × V} : e ∈ l ↔ (e.1 = c ∧ ov = some e.2) ∨ e ∈ flatG a := by
  rw [h.eq, List.mem_append, mem_ownL]
theorem View.srt {c : List UInt8} {ov : Option V} {a : List (Grp V)} {l : List (List UInt8 × V)} (h : View c ov a l) : Srt l := by
  rw [h.eq]; exact h.gp.to.srtAll ov
theorem GP.front {p : List UInt8} {a : List (Grp V)} (h : GP p a) {e : List UInt8 × V} (he : e ∈ flatG a) : e.1 ≠ p := by
  obtain ⟨q, hq, he⟩ := mem_flatG.mp he
  obtain ⟨r, hr⟩ := (h.each q hq).2.2 e he
  rw [hr]; exact app_ne
/-- The node itself, seen from its prefix. -/
theorem Shaped.view {p xs : List UInt8} {ov : Option V} {gs : List (List (List UInt8 × V))} {l : List (List UInt8 × V)} (h : Shaped p ov xs gs l) : View p ov (xs.zip gs) l :=
  ⟨GP.of h.grps, by rw [h.eq]; unfold flatG; rw [zip_snd h.grps.len]⟩
/-- One branch, seen from further ahead. -/
theorem view_one {c : List UInt8} {y : UInt8} {l : List (List UInt8 × V)} (hs : Srt l) (hl : l ≠ []) (hp : ∀ e ∈ l, ∃ r, e.1 = c ++ y :: r) : View c none [(y, l)] l :=
  ⟨⟨by simp, fun q hq => by simp at hq; subst hq; exact ⟨hl, hs, hp⟩⟩, by simp [flatG, ownL]⟩
theorem View.uni {c : List UInt8} {o1 o2 : Option V} {a b : List (Grp V)} {l m : List (List UInt8 × V)} (h1 : View c o1 a l) (h2 : View c o2 b m) : View c (o2.or o1) (mg a b) (uni l m) := by
  obtain ⟨g1, g2, g3, _, _⟩ := mg_all _ (Nat.le_refl _) h1.gp h2.gp
  refine ⟨g1, ?_⟩
  refine (uni_eq h1.srt h2.srt (g1.to.srtAll _) fun e => ?_).symm
  show e ∈ ownL c (o2.or o1) ++ flatG (mg a b) ↔ _
  rw [List.mem_append, mem_ownL, g3 e, h1.mem, h2.mem]
  constructor
  · rintro (⟨e1, e2⟩ | e1 | ⟨e1, e2⟩)
    · cases o2 with
      | some v => exact .inl (.inl ⟨e1, e2⟩)
      | none =>
        refine .inr ⟨.inl ⟨e1, e2⟩, fun q hq => ?_⟩
        rcases h2.mem.mp hq with ⟨_, h⟩ | h
        · cases h
        · rw [e1]; exact h2.gp.front h
    · exact .inl (.inr e1)
    · refine .inr ⟨.inr e1, fun q hq => ?_⟩
      rcases h2.mem.mp hq with ⟨h, _⟩ | h
      · rw [h]; exact fun e => h1.gp.front e1 e.symm
      · exact e2 q h
  · rintro ((⟨e1, e2⟩ | e1) | ⟨⟨e1, e2⟩ | e1, e3⟩)
    · exact .inl ⟨e1, by rw [e2]; rfl⟩
    · exact .inr (.inl e1)
    · refine .inl ⟨e1, ?_⟩
      cases o2 with
      | some v => exact absurd e1.symm (e3 (c, v) (h2.mem.mpr (.inl ⟨rfl, rfl⟩)))
      | none => exact e2
    · exact .inr (.inr ⟨e1, fun q hq => e3 q (h2.mem.mpr (.inr hq))⟩)
theorem View.shaped {c : List UInt8} {ov : Option V} {a : List (Grp V)} {l : List (List UInt8 × V)} (h : View c ov a l) (h2 : ov = none → 2 ≤ a.length) : Shaped c ov (a.map (·.1)) (a.map (·.2)) l :=
  ⟨h.gp.to, h.eq, fun h0 => by rw [List.length_map]; exact h2 h0⟩
end

end Go.Proofs.Ytcgjppacnhmjlaa
