/- The shape of the tree of a list of pairs hangs on the list alone. -/
import Derived.Test.YtcgjppacnhmjlaaGreatPureC
import Derived.Test.YtcgjppacnhmjlaaGreatRep
set_option linter.unusedVariables false
set_option linter.unusedSimpArgs false
namespace Go.Proofs.YtcgjppacnhmjlaaGreat
variable {V : Type}

theorem sorted_ext : ∀ {a b : List UInt8}, a.Pairwise (· < ·) → b.Pairwise (· < ·) → (∀ x, x ∈ a ↔ x ∈ b) → a = b
  | [], [], _, _, _ => rfl
  | [], x :: r, _, _, h => absurd ((h x).mpr List.mem_cons_self) (by simp)
  | x :: r, [], _, _, h => absurd ((h x).mp List.mem_cons_self) (by simp)
  | x :: r, y :: q, ha, hb, h => by
    obtain ⟨h1, h2⟩ := List.pairwise_cons.mp ha
    obtain ⟨k1, k2⟩ := List.pairwise_cons.mp hb
    have hxy : x = y := by
      rcases List.mem_cons.mp ((h x).mp List.mem_cons_self) with e | e
      · exact e
      · rcases List.mem_cons.mp ((h y).mpr List.mem_cons_self) with e2 | e2
        · exact e2.symm
        · exact absurd (UInt8.lt_trans (h1 y e2) (k1 x e)) (UInt8.lt_irrefl x)
    subst hxy
    rw [sorted_ext h2 k2 (fun z => by
      constructor
      · intro hz
        rcases List.mem_cons.mp ((h z).mp (List.mem_cons_of_mem _ hz)) with e | e
        · subst e; exact absurd (h1 _ hz) (UInt8.lt_irrefl _)
        · exact e
      · intro hz
        rcases List.mem_cons.mp ((h z).mpr (List.mem_cons_of_mem _ hz)) with e | e
        · subst e; exact absurd (k1 _ hz) (UInt8.lt_irrefl _)
        · exact e)]

theorem Grps.mem_byte {p xs : List UInt8} {gs : List (List (List UInt8 × V))} (h : Grps p xs gs) {x : UInt8} : x ∈ xs ↔ ∃ e ∈ gs.flatten, ∃ r, e.1 = p ++ x :: r := by
  constructor
  · intro hx
    obtain ⟨i, hi⟩ := List.mem_iff_getElem?.mp hx
    obtain ⟨g, hg⟩ := h.grp hi
    obtain ⟨e, he⟩ := List.exists_mem_of_ne_nil _ (h.some' i g hg)
    exact ⟨e, mem_flat.mpr ⟨i, g, hg, he⟩, h.pre i x g hi hg e he⟩
  · rintro ⟨e, he, r, hr⟩
    obtain ⟨i, g, hg, he⟩ := mem_flat.mp he
    obtain ⟨y, hy⟩ := h.byte hg
    obtain ⟨q, hq⟩ := h.pre i y g hy hg e he
    obtain ⟨rfl, _⟩ := app_inj (hr.symm.trans hq)
    exact List.mem_of_getElem? hy
theorem Grps.mem_group {p xs : List UInt8} {gs : List (List (List UInt8 × V))} (h : Grps p xs gs) {i : Nat} {x : UInt8} {g : List (List UInt8 × V)} (hx : xs[i]? = some x) (hg : gs[i]? = some g) {e : List UInt8 × V} : e ∈ g ↔ e ∈ gs.flatten ∧ ∃ r, e.1 = p ++ x :: r := by
  constructor
  · intro he
    exact ⟨mem_flat.mpr ⟨i, g, hg, he⟩, h.pre i x g hx hg e he⟩
  · rintro ⟨he, r, hr⟩
    obtain ⟨j, m, hm, he⟩ := mem_flat.mp he
    obtain ⟨y, hy⟩ := h.byte hm
    obtain ⟨q, hq⟩ := h.pre j y m hy hm e he
    obtain ⟨rfl, _⟩ := app_inj (hr.symm.trans hq)
    obtain rfl := pw_inj h.pw hx hy
    rw [hg] at hm; cases hm; exact he
/-- A list is parted in one way. -/
theorem Shaped.one {p q xs ys : List UInt8} {ov ou : Option V} {gs hs : List (List (List UInt8 × V))} {l : List (List UInt8 × V)} (h : Shaped p ov xs gs l) (k : Shaped q ou ys hs l) : p = q ∧ ov = ou ∧ xs = ys ∧ gs = hs := by
  have hpq : p = q := List.IsPrefix.eq_of_length_le (k.pre_of fun e he => h.front he) (h.pre_of fun e he => k.front he).length_le
  subst hpq
  have hov : ov = ou := by
    have a : ∀ {ov : Option V} {xs gs}, Shaped p ov xs gs l → ∀ v, ov = some v ↔ (p, v) ∈ l := by
      intro ov xs gs h v
      rw [h.mem]
      constructor
      · intro e; exact .inl ⟨rfl, e⟩
      · rintro (h1 | ⟨i, g, hg, h1⟩)
        · exact h1.2
        · obtain ⟨x, hx⟩ := h.grps.byte hg
          obtain ⟨r, hr⟩ := h.grps.pre i x g hx hg _ h1
          exact absurd hr app_ne.symm
    cases ov with
    | some v => exact ((a k v).mpr ((a h v).mp rfl)).symm
    | none => cases ou with
      | none => rfl
      | some v => exact (a h v).mpr ((a k v).mp rfl)
  subst hov
  have hfl : gs.flatten = hs.flatten := List.append_cancel_left (h.eq.symm.trans k.eq)
  have hxs : xs = ys := sorted_ext h.grps.pw k.grps.pw fun x => by rw [h.grps.mem_byte, k.grps.mem_byte, hfl]
  subst hxs
  refine ⟨rfl, rfl, rfl, List.ext_getElem? fun i => ?_⟩
  cases hg : gs[i]? with
  | none =>
    rw [List.getElem?_eq_none_iff] at hg
    rw [eq_comm, List.getElem?_eq_none_iff, ← k.grps.len, h.grps.len]; exact hg
  | some g =>
    obtain ⟨x, hx⟩ := h.grps.byte hg
    obtain ⟨m, hm⟩ := k.grps.grp hx
    rw [hm]
    congr 1
    exact Srt.ext (h.grps.srt i g hg) (k.grps.srt i m hm) fun e => by rw [h.grps.mem_group hx hg, k.grps.mem_group hx hm, hfl]

/-- Which count a node with so many branches goes into. -/
def kindIx (n : Nat) : Nat := if n ≤ 4 then 1 else if n ≤ 16 then 2 else if n ≤ 48 then 3 else 4
def one (i j : Nat) : Nat := if j = i then 1 else 0
def sumAt (cl : List (Nat → Nat)) (j : Nat) : Nat := (cl.map fun c => c j).sum
def maxOf (hl : List Nat) : Nat := hl.foldl max 0

/-- The tree of l has c j of each kind j, and the height h. -/
def ShapeOf : Nat → List (List UInt8 × V) → (Nat → Nat) → Nat → Prop
  | 0, _, _, _ => False
  | n + 1, l, c, h => ∃ (p : List UInt8) (ov : Option V) (xs : List UInt8) (gs : List (List (List UInt8 × V))), Shaped p ov xs gs l ∧
      ((gs = [] ∧ c = one 0 ∧ h = 1) ∨ (gs ≠ [] ∧ ∃ (cl : List (Nat → Nat)) (hl : List Nat), cl.length = gs.length ∧ hl.length = gs.length ∧ (∀ (i : Nat) g c' h', gs[i]? = some g → cl[i]? = some c' → hl[i]? = some h' → ShapeOf n g c' h') ∧ c = (fun j => sumAt cl j + one (kindIx gs.length) j) ∧ h = maxOf hl + 1))

theorem ShapeOf.uniq : ∀ {n m : Nat} {l : List (List UInt8 × V)} {c c' : Nat → Nat} {h h' : Nat}, ShapeOf n l c h → ShapeOf m l c' h' → c = c' ∧ h = h'
  | 0, _, _, _, _, _, _, H, _ => H.elim
  | _ + 1, 0, _, _, _, _, _, _, H => H.elim
  | n + 1, m + 1, l, c, c', h, h', ⟨p, ov, xs, gs, hs, H⟩, ⟨q, ou, ys, ks, hk, K⟩ => by
    obtain ⟨rfl, rfl, rfl, rfl⟩ := hs.one hk
    rcases H with ⟨h1, rfl, rfl⟩ | ⟨h1, cl, hl, l1, l2, hc, rfl, rfl⟩
    · rcases K with ⟨_, rfl, rfl⟩ | ⟨h2, _⟩
      · exact ⟨rfl, rfl⟩
      · exact absurd h1 h2
    · rcases K with ⟨h2, _⟩ | ⟨h2, cl', hl', l1', l2', hc', rfl, rfl⟩
      · exact absurd h2 h1
      · have : ∀ i : Nat, cl[i]? = cl'[i]? ∧ hl[i]? = hl'[i]? := by
          intro i
          by_cases hi : i < gs.length
          · have a1 : gs[i]? = some gs[i] := List.getElem?_eq_getElem hi
            have a2 : cl[i]? = some (cl[i]'(by omega)) := List.getElem?_eq_getElem _
            have a3 : hl[i]? = some (hl[i]'(by omega)) := List.getElem?_eq_getElem _
            have b2 : cl'[i]? = some (cl'[i]'(by omega)) := List.getElem?_eq_getElem _
            have b3 : hl'[i]? = some (hl'[i]'(by omega)) := List.getElem?_eq_getElem _
            obtain ⟨e1, e2⟩ := ShapeOf.uniq (hc i _ _ _ a1 a2 a3) (hc' i _ _ _ a1 b2 b3)
            rw [a2, a3, b2, b3, e1, e2]; exact ⟨rfl, rfl⟩
          · rw [List.getElem?_eq_none (by omega), List.getElem?_eq_none (by omega), List.getElem?_eq_none (by omega), List.getElem?_eq_none (by omega)]; exact ⟨rfl, rfl⟩
        have e1 : cl = cl' := List.ext_getElem? fun i => (this i).1
        have e2 : hl = hl' := List.ext_getElem? fun i => (this i).2
        subst e1; subst e2; exact ⟨rfl, rfl⟩

theorem sumAt_snoc (cl : List (Nat → Nat)) (c : Nat → Nat) (j : Nat) : sumAt (cl ++ [c]) j = sumAt cl j + c j := by simp [sumAt]
theorem maxOf_snoc (hl : List Nat) (h : Nat) : maxOf (hl ++ [h]) = max (maxOf hl) h := by simp [maxOf]
theorem maxOf_le {hl : List Nat} {b : Nat} (h : ∀ x ∈ hl, x ≤ b) : maxOf hl ≤ b := by
  have : ∀ (hl : List Nat) (a : Nat), a ≤ b → (∀ x ∈ hl, x ≤ b) → hl.foldl max a ≤ b := by
    intro hl
    induction hl with
    | nil => intro a ha _; exact ha
    | cons x r ih => intro a ha hr; exact ih _ (Nat.max_le.mpr ⟨ha, hr x List.mem_cons_self⟩) (fun y hy => hr y (List.mem_cons_of_mem _ hy))
  exact this hl 0 (Nat.zero_le _) h
theorem sumAt_le : ∀ {cl : List (Nat → Nat)} {gs : List (List (List UInt8 × V))}, cl.length = gs.length → (∀ (i : Nat) g c, gs[i]? = some g → cl[i]? = some c → ∀ j, c j + 1 ≤ 2 * g.length) → ∀ j, sumAt cl j + gs.length ≤ 2 * (gs.map List.length).sum
  | [], [], _, _, _ => by simp [sumAt]
  | [], _ :: _, h, _, _ => by simp at h
  | _ :: _, [], h, _, _ => by simp at h
  | c :: cl, g :: gs, h, hc, j => by
    have h1 := hc 0 g c rfl rfl j
    have h2 := sumAt_le (cl := cl) (gs := gs) (by simpa using h) (fun i g' c' a b => hc (i + 1) g' c' (by simpa using a) (by simpa using b)) j
    simp only [sumAt, List.map_cons, List.sum_cons, List.length_cons] at *
    omega
theorem ShapeOf.bounds : ∀ {n : Nat} {l : List (List UInt8 × V)} {c : Nat → Nat} {h : Nat}, ShapeOf n l c h → (∀ j, c j + 1 ≤ 2 * l.length) ∧ h ≤ l.length ∧ 1 ≤ l.length ∧ c 0 ≤ l.length
  | 0, _, _, _, H => H.elim
  | n + 1, l, c, h, ⟨p, ov, xs, gs, hs, H⟩ => by
    have hlen := hs.len
    rcases H with ⟨h1, rfl, rfl⟩ | ⟨h1, cl, hl, l1, l2, hc, rfl, rfl⟩
    · have : ov ≠ none := fun h0 => by have := hs.two h0; rw [h1] at this; simp at this
      obtain ⟨v, rfl⟩ := Option.ne_none_iff_exists'.mp this
      rw [h1] at hlen
      simp [ownL] at hlen
      refine ⟨fun j => ?_, by omega, by omega, by simp [one]; omega⟩
      unfold one; split <;> omega
    · have hb : ∀ (i : Nat) g c' h', gs[i]? = some g → cl[i]? = some c' → hl[i]? = some h' → (∀ j, c' j + 1 ≤ 2 * g.length) ∧ h' ≤ g.length ∧ 1 ≤ g.length ∧ c' 0 ≤ g.length := fun i g c' h' a1 a2 a3 => (hc i g c' h' a1 a2 a3).bounds
      have hh : ∀ (i : Nat) g, gs[i]? = some g → ∃ c' h', cl[i]? = some c' ∧ hl[i]? = some h' := by
        intro i g hg
        have hi := (List.getElem?_eq_some_iff.mp hg).1
        exact ⟨cl[i]'(by omega), hl[i]'(by omega), List.getElem?_eq_getElem _, List.getElem?_eq_getElem _⟩
      have hsum := sumAt_le l1 (fun i g c' a b j => by
        obtain ⟨c2, h2, b2, b3⟩ := hh i g a
        rw [b] at b2; cases b2
        exact (hb i g c' h2 a b b3).1 j)
      have hown : 2 ≤ 2 * (ownL p ov).length + gs.length := by
        cases ov with
        | none => exact Nat.le_trans (hs.two rfl) (Nat.le_add_left _ _)
        | some v => simp [ownL]
      have hone : ∀ j, one (kindIx gs.length) j ≤ 1 := fun j => by unfold one; split <;> omega
      have hpart : ∀ (i : Nat) g, gs[i]? = some g → g.length + 1 ≤ l.length := by
        intro i g hg
        have hi := (List.getElem?_eq_some_iff.mp hg).1
        have h3 : (gs.take i ++ gs.drop (i + 1)).length + 1 = gs.length := len_cut gs i hi
        have h4 : gs.flatten.length = (gs.take i).flatten.length + g.length + (gs.drop (i + 1)).flatten.length := by
          conv => lhs; rw [← List.take_append_drop i gs, List.drop_eq_getElem_cons hi]
          rw [List.flatten_append, List.flatten_cons, List.length_append, List.length_append]
          have : gs[i] = g := Option.some.inj ((List.getElem?_eq_getElem hi).symm.trans hg)
          rw [this]; omega
        have h5 : l.length = (ownL p ov).length + gs.flatten.length := by rw [hs.eq, List.length_append]
        cases ov with
        | some v => have h6 : (ownL p (some v)).length = 1 := rfl; omega
        | none =>
          have h6 := hs.two rfl
          have : 1 ≤ (gs.take i).flatten.length + (gs.drop (i + 1)).flatten.length := by
            obtain ⟨k, hk, m, hm⟩ : ∃ k, k ≠ i ∧ ∃ m, gs[k]? = some m := by
              by_cases e : i = 0
              · exact ⟨1, by omega, gs[1], List.getElem?_eq_getElem _⟩
              · exact ⟨0, by omega, gs[0], List.getElem?_eq_getElem _⟩
            have hm1 : 1 ≤ m.length := List.length_pos_iff.mpr (hs.grps.some' k m hm)
            rcases Nat.lt_or_ge k i with h7 | h7
            · have : m ∈ gs.take i := List.mem_of_getElem? (i := k) (by rw [List.getElem?_take, if_pos h7]; exact hm)
              have := (List.sublist_flatten_of_mem this).length_le
              omega
            · have : m ∈ gs.drop (i + 1) := List.mem_of_getElem? (i := k - (i + 1)) (by rw [List.getElem?_drop, show i + 1 + (k - (i + 1)) = k by omega]; exact hm)
              have := (List.sublist_flatten_of_mem this).length_le
              omega
          omega
      have hmax : maxOf hl + 1 ≤ l.length := by
        have hpos : 0 < gs.length := List.length_pos_iff.mpr h1
        have h0 : gs[0]? = some gs[0] := List.getElem?_eq_getElem _
        have hl1 := hpart 0 _ h0
        have : maxOf hl ≤ l.length - 1 := maxOf_le fun x hx => by
          obtain ⟨i, hi⟩ := List.mem_iff_getElem?.mp hx
          have hil := (List.getElem?_eq_some_iff.mp hi).1
          have hgi : gs[i]? = some (gs[i]'(by omega)) := List.getElem?_eq_getElem _
          obtain ⟨c2, h2, b2, b3⟩ := hh i _ hgi
          rw [hi] at b3; cases b3
          have := (hb i _ c2 x hgi b2 hi).2.1
          have := hpart i _ hgi
          omega
        omega
      have hl1 : 1 ≤ l.length := by omega
      refine ⟨fun j => ?_, hmax, hl1, ?_⟩
      · show sumAt cl j + one (kindIx gs.length) j + 1 ≤ _
        have := hsum j; have := hone j; omega
      · have hz : one (kindIx gs.length) 0 = 0 := by unfold one kindIx; rw [if_neg]; split <;> (try split) <;> (try split) <;> omega
        have : ∀ {cl : List (Nat → Nat)} {gs : List (List (List UInt8 × V))}, cl.length = gs.length → (∀ (i : Nat) g c, gs[i]? = some g → cl[i]? = some c → c 0 ≤ g.length) → sumAt cl 0 ≤ (gs.map List.length).sum := by
          intro cl
          induction cl with
          | nil => intro gs _ _; simp [sumAt]
          | cons c cl ih =>
            intro gs hh hc
            cases gs with
            | nil => simp at hh
            | cons g gs =>
              have h1 := hc 0 g c rfl rfl
              have h2 := ih (gs := gs) (by simpa using hh) (fun i g' c' a b => hc (i + 1) g' c' (by simpa using a) (by simpa using b))
              simp only [sumAt, List.map_cons, List.sum_cons] at *
              omega
        have := this l1 (fun i g c' a b => by
          obtain ⟨c2, h2, b2, b3⟩ := hh i g a
          rw [b] at b2; cases b2
          exact (hb i g c' h2 a b b3).2.2.2)
        simp only [hz]; omega

end Go.Proofs.YtcgjppacnhmjlaaGreat
