/- Codes written, and read back: no program in it. -/
import Derived.Test.YtcgjppacnhmjlaaTupE
set_option linter.unusedVariables false
set_option linter.unusedSimpArgs false
namespace Go.Proofs.Ytcgjppacnhmjlaa

def esc : Bs → Bs
  | [] => []
  | b :: t => if b = 0 then 0 :: 255 :: esc t else b :: esc t
theorem esc_len (t : Bs) : (esc t).length ≤ 2 * t.length := by
  induction t with
  | nil => simp [esc]
  | cons b t ih => unfold esc; split <;> simp <;> omega
/-- The last n bytes of a number, the greatest first. -/
def dg : Nat → Nat → Bs
  | 0, _ => []
  | n + 1, u => (u / 256 ^ n % 256).toUInt8 :: dg n u
theorem dg_len (n u : Nat) : (dg n u).length = n := by
  induction n with
  | zero => rfl
  | succ n ih => simp [dg, ih]
theorem byte_back (b : UInt8) : b.toNat.toUInt8 = b := by simp
theorem beOf_cons (b : UInt8) (l : Bs) : beOf (b :: l) = b.toNat * 256 ^ l.length + beOf l := by
  have key : ∀ (l : Bs) (a : Nat), l.foldl (fun n b => n * 256 + b.toNat) a = a * 256 ^ l.length + beOf l := by
    intro l
    induction l with
    | nil => intro a; simp [beOf]
    | cons c l ih =>
      intro a
      show l.foldl _ (a * 256 + c.toNat) = _
      rw [ih]
      have : beOf (c :: l) = (0 * 256 + c.toNat) * 256 ^ l.length + beOf l := by
        show l.foldl _ (0 * 256 + c.toNat) = _
        exact ih _
      rw [this]
      simp only [List.length_cons, Nat.pow_succ]
      rw [Nat.add_mul, Nat.zero_mul, Nat.zero_add, Nat.mul_assoc, Nat.mul_comm 256, Nat.add_assoc]
  have := key l (0 * 256 + b.toNat)
  show l.foldl _ (0 * 256 + b.toNat) = _
  rw [this]
  simp
theorem dg_add (n : Nat) : ∀ (m u : Nat), m ≤ n → dg m (u + 256 ^ n * 0 + 0) = dg m u := fun m u _ => by simp
theorem dg_mod : ∀ (n a u : Nat), dg n (a * 256 ^ n + u) = dg n u
  | 0, a, u => rfl
  | n + 1, a, u => by
    simp only [dg]
    have h1 : (a * 256 ^ (n + 1) + u) / 256 ^ n % 256 = u / 256 ^ n % 256 := by
      have hp : 0 < 256 ^ n := Nat.pow_pos (by decide)
      rw [Nat.pow_succ, ← Nat.mul_assoc, Nat.mul_right_comm, Nat.add_comm, Nat.add_mul_div_right _ _ hp, Nat.add_mul_mod_self_right]
    rw [h1]
    congr 1
    have := dg_mod n (a * 256) u
    rw [← this]
    congr 2
    rw [Nat.pow_succ, Nat.mul_comm (256 ^ n), Nat.mul_assoc]
theorem dg_beOf : ∀ (l : Bs), dg l.length (beOf l) = l
  | [] => rfl
  | b :: l => by
    show dg (l.length + 1) (beOf (b :: l)) = _
    have hlt := beOf_lt l.length l rfl
    have hb : b.toNat < 256 := b.toNat_lt
    rw [beOf_cons]
    simp only [dg]
    have h1 : (b.toNat * 256 ^ l.length + beOf l) / 256 ^ l.length % 256 = b.toNat := by
      have hp : 0 < 256 ^ l.length := Nat.pow_pos (by decide)
      rw [Nat.add_comm, Nat.add_mul_div_right _ _ hp, Nat.div_eq_of_lt hlt]
      omega
    rw [h1, dg_mod, dg_beOf l, byte_back]
theorem beOf_dg : ∀ (n u : Nat), beOf (dg n u) = u % 256 ^ n
  | 0, u => by simp [dg, beOf, Nat.mod_one]
  | n + 1, u => by
    simp only [dg]
    rw [beOf_cons, beOf_dg n u, dg_len]
    have : (u / 256 ^ n % 256).toUInt8.toNat = u / 256 ^ n % 256 := by
      rw [Nat.toUInt8, UInt8.toNat_ofNat']
      exact Nat.mod_eq_of_lt (by omega)
    rw [this, Nat.pow_succ]
    have h2 := Nat.mod_mul (x := u) (a := 256 ^ n) (b := 256)
    rw [h2, Nat.add_comm, Nat.mul_comm]
/-- What a value's code is, and whether the value is one of the kind. -/
def numOf (k : Int) (v : ValD) : Nat := if 5 ≤ k then (v.i + 2 ^ (8 * widthOf k - 1)).toNat else v.u
def encV (k : Int) (v : ValD) : Bs := if k = 9 then esc v.s ++ [0, 0] else dg (widthOf k) (numOf k v)
def FitV (k : Int) (v : ValD) : Prop := if k = 9 then v.u = 0 ∧ v.i = 0 else if 5 ≤ k then v.u = 0 ∧ v.s = [] ∧ (-(2 ^ (8 * widthOf k - 1)) ≤ v.i ∧ v.i < 2 ^ (8 * widthOf k - 1)) else v.i = 0 ∧ v.s = [] ∧ v.u < 256 ^ widthOf k
instance (k : Int) (v : ValD) : Decidable (FitV k v) := by
  unfold FitV
  infer_instance
def encAll : List Int → List ValD → Bs
  | k :: ks, v :: vs => encV k v ++ encAll ks vs
  | _, _ => []
def FitAll : List Int → List ValD → Prop
  | [], [] => True
  | k :: ks, v :: vs => FitV k v ∧ FitAll ks vs
  | _, _ => False
theorem unesc_back : ∀ {t s r : Bs}, unesc t = some (s, r) → t = esc s ++ 0 :: 0 :: r
  | [], s, r, h => by cases h
  | [_], s, r, h => by cases h
  | b :: c :: q, s, r, h => by
    rw [unesc] at h
    split at h
    · rename_i hb
      split at h
      · rename_i hc; cases h; rw [hb, hc]; rfl
      · split at h
        · rename_i hc
          obtain ⟨p, hp, he⟩ := Option.map_eq_some_iff.mp h
          cases he
          rw [unesc_back (s := p.1) (r := p.2) hp, hb, hc]
          simp [esc]
        · cases h
    · rename_i hb
      obtain ⟨p, hp, he⟩ := Option.map_eq_some_iff.mp h
      cases he
      rw [unesc_back (s := p.1) (r := p.2) hp]
      simp [esc, hb]
theorem pow_half (k : Int) : (256 : Int) ^ widthOf k = 2 * 2 ^ (8 * widthOf k - 1) := by
  rcases widthOf_cases k with h | h | h | h <;> rw [h] <;> decide
set_option maxRecDepth 100000 in
theorem rdV_back {k : Int} {t : Bs} {v : ValD} {r : Bs} (h : rdV k t = some (v, r)) : FitV k v ∧ t = encV k v ++ r := by
  unfold rdV at h
  unfold FitV encV
  split at h
  · rename_i hk
    obtain ⟨p, hp, he⟩ := Option.map_eq_some_iff.mp h
    cases he
    rw [if_pos hk, if_pos hk]
    exact ⟨⟨rfl, rfl⟩, by rw [unesc_back (s := p.1) (r := p.2) hp]; simp⟩
  · rename_i hk
    rw [if_neg hk, if_neg hk]
    split at h
    · cases h
    · rename_i hl
      cases h
      have hlen : (t.take (widthOf k)).length = widthOf k := by rw [List.length_take]; omega
      have hlt := beOf_lt (widthOf k) _ hlen
      have hd := dg_beOf (t.take (widthOf k))
      rw [hlen] at hd
      have hph := pow_half k
      have hltI : ((beOf (t.take (widthOf k)) : Nat) : Int) < 256 ^ widthOf k := by exact_mod_cast hlt
      by_cases h5 : 5 ≤ k
      · rw [if_pos h5, if_pos h5]
        refine ⟨⟨rfl, rfl, by dsimp only; omega, by dsimp only; omega⟩, ?_⟩
        unfold numOf
        rw [if_pos h5]
        dsimp only
        rw [Int.sub_add_cancel, Int.toNat_natCast, hd, List.take_append_drop]
      · rw [if_neg h5, if_neg h5]
        refine ⟨⟨rfl, rfl, hlt⟩, ?_⟩
        unfold numOf
        rw [if_neg h5, hd, List.take_append_drop]
theorem rdAll_back : ∀ {ks : List Int} {t : Bs} {vs : List ValD}, rdAll ks t = some vs → FitAll ks vs ∧ t = encAll ks vs
  | [], t, vs, h => by
    rw [rdAll] at h
    split at h
    · rename_i ht; cases h; exact ⟨trivial, ht⟩
    · cases h
  | k :: ks, t, vs, h => by
    rw [rdAll] at h
    split at h
    · cases h
    · rename_i v r hr
      obtain ⟨us, hu, rfl⟩ := Option.map_eq_some_iff.mp h
      obtain ⟨h1, h2⟩ := rdV_back hr
      obtain ⟨h3, h4⟩ := rdAll_back hu
      exact ⟨⟨h1, h3⟩, by rw [h2, h4]; rfl⟩

end Go.Proofs.Ytcgjppacnhmjlaa
