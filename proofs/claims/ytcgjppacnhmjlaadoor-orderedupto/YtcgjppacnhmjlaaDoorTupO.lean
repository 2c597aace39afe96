/- Codes are in the order of the tuples: no program in it. -/
import Derived.Test.YtcgjppacnhmjlaaDoorTupG
set_option linter.unusedVariables false
set_option linter.unusedSimpArgs false
namespace Go.Proofs.YtcgjppacnhmjlaaDoor

/-- x comes ahead of y, at a byte where they part. -/
def Sep (x y : Bs) : Prop := ∃ (c : Bs) (a b : UInt8) (r1 r2 : Bs), x = c ++ a :: r1 ∧ y = c ++ b :: r2 ∧ a < b
theorem Sep.app {x y : Bs} (h : Sep x y) (X Y : Bs) : Sep (x ++ X) (y ++ Y) := by
  obtain ⟨c, a, b, r1, r2, rfl, rfl, hab⟩ := h
  exact ⟨c, a, b, r1 ++ X, r2 ++ Y, by simp, by simp, hab⟩
theorem Sep.pre {x y : Bs} (h : Sep x y) (p : Bs) : Sep (p ++ x) (p ++ y) := by
  obtain ⟨c, a, b, r1, r2, rfl, rfl, hab⟩ := h
  exact ⟨p ++ c, a, b, r1, r2, by simp, by simp, hab⟩
theorem less_cons (a b : UInt8) (r q : Bs) : Op.bytesLess (a :: r) (b :: q) = true ↔ a < b ∨ (a = b ∧ Op.bytesLess r q = true) := by simp [Op.bytesLess]
theorem less_irrefl (x : Bs) : Op.bytesLess x x = false := by
  induction x with
  | nil => simp [Op.bytesLess]
  | cons a x ih =>
    cases h : Op.bytesLess (a :: x) (a :: x) with
    | false => rfl
    | true =>
      rcases (less_cons a a x x).mp h with h | ⟨_, h⟩
      · exact absurd h (UInt8.lt_irrefl a)
      · rw [ih] at h; cases h
theorem less_total : ∀ (x y : Bs), x ≠ y → Op.bytesLess x y = true ∨ Op.bytesLess y x = true
  | [], [], h => absurd rfl h
  | [], b :: y, _ => .inl (by simp [Op.bytesLess])
  | a :: x, [], _ => .inr (by simp [Op.bytesLess])
  | a :: x, b :: y, h => by
    rw [less_cons, less_cons]
    by_cases e : a = b
    · subst e
      rcases less_total x y (fun e => h (by rw [e])) with h1 | h1
      · exact .inl (.inr ⟨rfl, h1⟩)
      · exact .inr (.inr ⟨rfl, h1⟩)
    · rcases UInt8.lt_or_lt_of_ne e with h1 | h1
      · exact .inl (.inl h1)
      · exact .inr (.inl h1)
theorem Sep.less {x y : Bs} (h : Sep x y) : Op.bytesLess x y = true ∧ Op.bytesLess y x = false ∧ x ≠ y ∧ (∀ n, y.take n ≠ x ∨ x = []) ∧ ¬ x <+: y ∧ ¬ y <+: x := by
  obtain ⟨c, a, b, r1, r2, rfl, rfl, hab⟩ := h
  have hne : a ≠ b := fun e => by rw [e] at hab; exact UInt8.lt_irrefl _ hab
  have hpre1 : ¬ (c ++ a :: r1) <+: (c ++ b :: r2) := fun ⟨t, ht⟩ => by simp at ht; exact hne ht.1
  have hpre2 : ¬ (c ++ b :: r2) <+: (c ++ a :: r1) := fun ⟨t, ht⟩ => by simp at ht; exact hne ht.1.symm
  refine ⟨?_, ?_, fun e => by simp at e; exact hne e.1, fun n => ?_, hpre1, hpre2⟩
  · induction c with
    | nil => exact (less_cons a b r1 r2).mpr (.inl hab)
    | cons z c ih =>
      refine (less_cons z z _ _).mpr (.inr ⟨rfl, ih ?_ ?_⟩)
      · exact fun ⟨t, ht⟩ => by simp at ht; exact hne ht.1
      · exact fun ⟨t, ht⟩ => by simp at ht; exact hne ht.1.symm
  · clear hpre1 hpre2
    induction c with
    | nil =>
      cases hh : Op.bytesLess (b :: r2) (a :: r1) with
      | false => simpa using hh
      | true =>
        rcases (less_cons b a r2 r1).mp hh with h | ⟨h, _⟩
        · exact absurd (UInt8.lt_trans hab h) (UInt8.lt_irrefl _)
        · exact absurd h.symm hne
    | cons z c ih =>
      cases hh : Op.bytesLess (z :: c ++ b :: r2) (z :: c ++ a :: r1) with
      | false => rfl
      | true =>
        rcases (less_cons z z _ _).mp hh with h | ⟨_, h⟩
        · exact absurd h (UInt8.lt_irrefl _)
        · have h' : Op.bytesLess (c ++ b :: r2) (c ++ a :: r1) = true := h
          rw [ih] at h'; cases h'
  · left
    intro e
    apply hpre1
    rw [← e]
    exact List.take_prefix _ _
theorem u8_of_lt {m n : Nat} (hm : m < 256) (hn : n < 256) (h : m < n) : m.toUInt8 < n.toUInt8 := by
  have e1 : m.toUInt8.toNat = m := by rw [Nat.toUInt8, UInt8.toNat_ofNat']; exact Nat.mod_eq_of_lt hm
  have e2 : n.toUInt8.toNat = n := by rw [Nat.toUInt8, UInt8.toNat_ofNat']; exact Nat.mod_eq_of_lt hn
  rw [UInt8.lt_iff_toNat_lt, e1, e2]
  exact h
theorem dg_low (w n : Nat) : dg w n = dg w (n % 256 ^ w) := by
  have := dg_mod w (n / 256 ^ w) (n % 256 ^ w)
  rw [← this]
  congr 1
  have := Nat.div_add_mod n (256 ^ w)
  rw [Nat.mul_comm] at this
  exact this.symm
theorem dg_sep : ∀ (w n m : Nat), n < m → m < 256 ^ w → Sep (dg w n) (dg w m)
  | 0, n, m, h1, h2 => by simp at h2; omega
  | w + 1, n, m, h1, h2 => by
    have hp : 0 < 256 ^ w := Nat.pow_pos (by decide)
    rw [Nat.pow_succ] at h2
    have hm : m / 256 ^ w < 256 := Nat.div_lt_of_lt_mul h2
    have hn : n / 256 ^ w ≤ m / 256 ^ w := Nat.div_le_div_right (Nat.le_of_lt h1)
    simp only [dg]
    rw [Nat.mod_eq_of_lt hm, Nat.mod_eq_of_lt (by omega : n / 256 ^ w < 256)]
    by_cases e : n / 256 ^ w = m / 256 ^ w
    · rw [e]
      have hd1 := Nat.div_add_mod n (256 ^ w)
      have hd2 := Nat.div_add_mod m (256 ^ w)
      rw [e] at hd1
      have hlt : n % 256 ^ w < m % 256 ^ w := by omega
      have := dg_sep w (n % 256 ^ w) (m % 256 ^ w) hlt (Nat.mod_lt _ hp)
      rw [← dg_low, ← dg_low] at this
      exact this.pre [_]
    · exact ⟨[], _, _, _, _, rfl, rfl, u8_of_lt (by omega) hm (by omega)⟩
theorem zero_lt_of_ne {b : UInt8} (h : b ≠ 0) : (0 : UInt8) < b := by
  rw [UInt8.lt_iff_toNat_lt]
  have : b.toNat ≠ 0 := fun e => h (UInt8.toNat_inj.mp e)
  show (0 : UInt8).toNat < b.toNat
  have h0 : (0 : UInt8).toNat = 0 := rfl
  omega
theorem esc_sep : ∀ (s t : Bs), Op.bytesLess s t = true → Sep (esc s ++ [0, 0]) (esc t ++ [0, 0])
  | [], [], h => by simp [Op.bytesLess] at h
  | a :: s, [], h => by simp [Op.bytesLess] at h
  | [], b :: t, _ => by
    by_cases hb : b = 0
    · subst hb
      exact ⟨[0], 0, 255, [], esc t ++ [0, 0], by simp [esc], by simp [esc], by decide⟩
    · exact ⟨[], 0, b, [0], esc t ++ [0, 0], by simp [esc], by simp [esc, hb], zero_lt_of_ne hb⟩
  | a :: s, b :: t, h => by
    rcases (less_cons a b s t).mp h with h1 | ⟨rfl, h1⟩
    · have hb : b ≠ 0 := fun e => by rw [e] at h1; exact absurd h1 (by rw [UInt8.lt_iff_toNat_lt]; exact Nat.not_lt_zero _)
      by_cases ha : a = 0
      · subst ha
        exact ⟨[], 0, b, 255 :: (esc s ++ [0, 0]), esc t ++ [0, 0], by simp [esc], by simp [esc, hb], h1⟩
      · exact ⟨[], a, b, esc s ++ [0, 0], esc t ++ [0, 0], by simp [esc, ha], by simp [esc, hb], h1⟩
    · have ih := esc_sep s t h1
      by_cases ha : a = 0
      · subst ha
        have := ih.pre [0, 255]
        simpa [esc] using this
      · have := ih.pre [a]
        simpa [esc, ha] using this
instance : DecidableEq ValD := fun a b => decidable_of_iff (a.u = b.u ∧ a.i = b.i ∧ a.s = b.s) ⟨fun h => by cases a; cases b; simp_all, fun h => by subst h; exact ⟨rfl, rfl, rfl⟩⟩
/-- The order of two values. -/
def ordV (u v : ValD) : Int := if u = v then 0 else if u.u < v.u ∨ u.i < v.i ∨ Op.bytesLess u.s v.s = true then -1 else 1
theorem ordV_vals (u v : ValD) : ordV u v = 0 ∨ ordV u v = -1 ∨ ordV u v = 1 := by
  unfold ordV
  split
  · simp
  · split <;> simp
theorem ordV_zero {u v : ValD} (h : ordV u v = 0) : u = v := by
  unfold ordV at h
  split at h
  · assumption
  · split at h <;> omega
theorem sepV {k : Int} {u v : ValD} (hu : FitV k u) (hv : FitV k v) : (ordV u v = -1 → Sep (encV k u) (encV k v)) ∧ (ordV u v = 1 → Sep (encV k v) (encV k u)) := by
  obtain ⟨u0, u1, u2⟩ := u
  obtain ⟨v0, v1, v2⟩ := v
  unfold FitV at hu hv
  unfold encV ordV
  by_cases h9 : k = 9
  · rw [if_pos h9] at hu hv ⊢
    rw [if_pos h9]
    dsimp only at hu hv ⊢
    obtain ⟨rfl, rfl⟩ := hu
    obtain ⟨rfl, rfl⟩ := hv
    constructor
    · intro h
      split at h
      · omega
      · split at h
        · rename_i h1
          rcases h1 with h1 | h1 | h1
          · omega
          · omega
          · exact esc_sep _ _ h1
        · omega
    · intro h
      split at h
      · omega
      · rename_i hne
        split at h
        · omega
        · rename_i h1
          have : u2 ≠ v2 := fun e => hne (by rw [e])
          rcases less_total u2 v2 this with h2 | h2
          · exact absurd (.inr (.inr h2)) h1
          · exact esc_sep _ _ h2
  · rw [if_neg h9] at hu hv ⊢
    rw [if_neg h9]
    by_cases h5 : 5 ≤ k
    · rw [if_pos h5] at hu hv
      dsimp only at hu hv ⊢
      obtain ⟨rfl, rfl, a1, a2⟩ := hu
      obtain ⟨rfl, rfl, b1, b2⟩ := hv
      have hph := pow_half k
      have key : ∀ x y : Int, -(2 ^ (8 * widthOf k - 1)) ≤ x → x < y → y < 2 ^ (8 * widthOf k - 1) → Sep (dg (widthOf k) (numOf k ⟨0, x, []⟩)) (dg (widthOf k) (numOf k ⟨0, y, []⟩)) := fun x y hx hxy hy => by
        apply dg_sep
        · unfold numOf; rw [if_pos h5, if_pos h5]; dsimp only; omega
        · have : ((numOf k ⟨0, y, []⟩ : Nat) : Int) < ((256 ^ widthOf k : Nat) : Int) := by
            rw [Int.natCast_pow]
            have h2 : ((256 : Nat) : Int) = 256 := rfl
            rw [h2, hph]
            unfold numOf; rw [if_pos h5]; dsimp only; omega
          omega
      constructor
      · intro h
        split at h
        · omega
        · split at h
          · rename_i h1
            rcases h1 with h1 | h1 | h1
            · omega
            · exact key u1 v1 a1 h1 b2
            · simp [Op.bytesLess] at h1
          · omega
      · intro h
        split at h
        · omega
        · rename_i hne
          split at h
          · omega
          · rename_i h1
            have : u1 ≠ v1 := fun e => hne (by rw [e])
            exact key v1 u1 b1 (by have : ¬ u1 < v1 := fun h => h1 (.inr (.inl h)); omega) a2
    · rw [if_neg h5] at hu hv
      dsimp only at hu hv ⊢
      obtain ⟨rfl, rfl, a1⟩ := hu
      obtain ⟨rfl, rfl, b1⟩ := hv
      have key : ∀ x y : Nat, x < y → y < 256 ^ widthOf k → Sep (dg (widthOf k) (numOf k ⟨x, 0, []⟩)) (dg (widthOf k) (numOf k ⟨y, 0, []⟩)) := fun x y hxy hy => by
        unfold numOf; rw [if_neg h5, if_neg h5]; exact dg_sep _ _ _ hxy hy
      constructor
      · intro h
        split at h
        · omega
        · split at h
          · rename_i h1
            rcases h1 with h1 | h1 | h1
            · exact key _ _ h1 b1
            · omega
            · simp [Op.bytesLess] at h1
          · omega
      · intro h
        split at h
        · omega
        · rename_i hne
          split at h
          · omega
          · rename_i h1
            have : u0 ≠ v0 := fun e => hne (by rw [e])
            exact key _ _ (by have : ¬ u0 < v0 := fun h => h1 (.inl h); omega) a1
/-- The order of two tuples. -/
def sgn : List ValD → List ValD → Int
  | u :: us, v :: vs => if ordV u v = 0 then sgn us vs else ordV u v
  | _, _ => 0
theorem sgn_snoc : ∀ (us vs : List ValD) (u v : ValD), us.length = vs.length → sgn (us ++ [u]) (vs ++ [v]) = if sgn us vs = 0 then ordV u v else sgn us vs
  | [], [], u, v, _ => by simp only [List.nil_append, sgn]; split <;> simp_all
  | [], _ :: _, _, _, h => by simp at h
  | _ :: _, [], _, _, h => by simp at h
  | a :: us, b :: vs, u, v, h => by
    have ih := sgn_snoc us vs u v (by simpa using h)
    by_cases e : ordV a b = 0
    · have e1 : sgn (a :: us) (b :: vs) = sgn us vs := by rw [sgn, if_pos e]
      have e2 : sgn (a :: us ++ [u]) (b :: vs ++ [v]) = sgn (us ++ [u]) (vs ++ [v]) := by rw [List.cons_append, List.cons_append, sgn, if_pos e]
      rw [e2, ih, e1]
    · have e1 : sgn (a :: us) (b :: vs) = ordV a b := by rw [sgn, if_neg e]
      have e2 : sgn (a :: us ++ [u]) (b :: vs ++ [v]) = ordV a b := by rw [List.cons_append, List.cons_append, sgn, if_neg e]
      rw [e2, e1, if_neg e]
theorem sepAll : ∀ (ks : List Int) (us vs : List ValD), FitAll ks us → FitAll ks vs → (sgn us vs = -1 → Sep (encAll ks us) (encAll ks vs)) ∧ (sgn us vs = 1 → Sep (encAll ks vs) (encAll ks us)) ∧ (sgn us vs = 0 → us = vs) ∧ (sgn us vs = 0 ∨ sgn us vs = -1 ∨ sgn us vs = 1)
  | [], [], [], _, _ => by simp [sgn]
  | [], _ :: _, _, h, _ => h.elim
  | [], [], _ :: _, _, h => h.elim
  | _ :: _, [], _, h, _ => h.elim
  | _ :: _, _ :: _, [], _, h => h.elim
  | k :: ks, u :: us, v :: vs, hu, hv => by
    obtain ⟨i1, i2, i3, i4⟩ := sepAll ks us vs hu.2 hv.2
    obtain ⟨s1, s2⟩ := sepV hu.1 hv.1
    simp only [sgn, encAll]
    by_cases e : ordV u v = 0
    · rw [if_pos e]
      have := ordV_zero e
      subst this
      exact ⟨fun h => (i1 h).pre _, fun h => (i2 h).pre _, fun h => by rw [i3 h], i4⟩
    · rw [if_neg e]
      exact ⟨fun h => (s1 h).app _ _, fun h => (s2 h).app _ _, fun h => absurd h e, ordV_vals u v⟩
theorem unesc_esc : ∀ (s r : Bs), unesc (esc s ++ 0 :: 0 :: r) = some (s, r)
  | [], r => by simp [esc, unesc]
  | b :: s, r => by
    have ih := unesc_esc s r
    by_cases hb : b = 0
    · subst hb
      simp only [esc, if_true, List.cons_append, unesc]
      rw [ih]
      simp
    · simp only [esc, if_neg hb, List.cons_append]
      rw [unesc_nz b _ hb, ih]
      rfl
theorem rdV_enc {k : Int} {v : ValD} (h : FitV k v) (r : Bs) : rdV k (encV k v ++ r) = some (v, r) := by
  obtain ⟨u, i, s⟩ := v
  unfold FitV at h
  unfold rdV encV
  by_cases h9 : k = 9
  · rw [if_pos h9] at h ⊢
    rw [if_pos h9]
    dsimp only at h ⊢
    obtain ⟨rfl, rfl⟩ := h
    have : esc s ++ [0, 0] ++ r = esc s ++ 0 :: 0 :: r := by simp
    rw [this, unesc_esc]
    rfl
  · rw [if_neg h9] at h ⊢
    rw [if_neg h9]
    have hl : (dg (widthOf k) (numOf k ⟨u, i, s⟩)).length = widthOf k := dg_len _ _
    rw [if_neg (by rw [List.length_append, hl]; omega), List.take_append_of_le_length (by omega), List.take_of_length_le (by omega), List.drop_append_of_le_length (by omega), List.drop_of_length_le (by omega), beOf_dg]
    have hph := pow_half k
    have hw : ((256 ^ widthOf k : Nat) : Int) = 2 * 2 ^ (8 * widthOf k - 1) := by
      rw [Int.natCast_pow]; exact hph
    by_cases h5 : 5 ≤ k
    · rw [if_pos h5] at h ⊢
      dsimp only at h
      obtain ⟨rfl, rfl, h1, h2⟩ := h
      have e : numOf k ⟨0, i, []⟩ = (i + 2 ^ (8 * widthOf k - 1)).toNat := by simp [numOf, h5]
      have hlt : numOf k ⟨0, i, []⟩ < 256 ^ widthOf k := by omega
      rw [Nat.mod_eq_of_lt hlt, e]
      have : (((i + 2 ^ (8 * widthOf k - 1)).toNat : Nat) : Int) - 2 ^ (8 * widthOf k - 1) = i := by omega
      rw [this]
      rfl
    · rw [if_neg h5] at h ⊢
      dsimp only at h
      obtain ⟨rfl, rfl, h1⟩ := h
      have e : numOf k ⟨u, 0, []⟩ = u := by simp [numOf, h5]
      rw [e, Nat.mod_eq_of_lt h1]
      rfl
theorem rdAll_enc : ∀ (ks : List Int) (vs : List ValD), FitAll ks vs → rdAll ks (encAll ks vs) = some vs
  | [], [], _ => by simp [rdAll, encAll]
  | [], _ :: _, h => h.elim
  | _ :: _, [], h => h.elim
  | k :: ks, v :: vs, h => by
    rw [encAll, rdAll, rdV_enc h.1]
    dsimp only
    rw [rdAll_enc ks vs h.2]
    rfl
theorem encAll_prefix : ∀ (ks : List Int) (vs : List ValD) (n : Nat), encAll (ks.take n) (vs.take n) <+: encAll ks vs
  | [], vs, n => by simp [encAll]
  | _ :: _, [], n => by cases n <;> simp [encAll]
  | k :: ks, v :: vs, 0 => by simp [encAll]
  | k :: ks, v :: vs, n + 1 => by
    simp only [List.take_succ_cons, encAll]
    exact List.prefix_append_right_inj _ |>.mpr (encAll_prefix ks vs n)

end Go.Proofs.YtcgjppacnhmjlaaDoor
