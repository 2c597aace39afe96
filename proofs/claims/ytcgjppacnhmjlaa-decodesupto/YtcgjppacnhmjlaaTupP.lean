/- Codes of tuples, as lists of bytes: no program in it. -/
import Derived.Test.YtcgjppacnhmjlaaTupA
set_option linter.unusedVariables false
set_option linter.unusedSimpArgs false
namespace Go.Proofs.Ytcgjppacnhmjlaa

abbrev Bs := List UInt8
def widthOf (k : Int) : Nat := if k = 1 ∨ k = 5 then 1 else if k = 2 ∨ k = 6 then 2 else if k = 3 ∨ k = 7 then 4 else 8
theorem widthOf_cases (k : Int) : widthOf k = 1 ∨ widthOf k = 2 ∨ widthOf k = 4 ∨ widthOf k = 8 := by
  unfold widthOf; split
  · simp
  · split
    · simp
    · split <;> simp
def beOf (l : Bs) : Nat := l.foldl (fun n b => n * 256 + b.toNat) 0
theorem beOf_snoc (l : Bs) (b : UInt8) : beOf (l ++ [b]) = beOf l * 256 + b.toNat := by simp [beOf]
theorem beOf_lt : ∀ (n : Nat) (l : Bs), l.length = n → beOf l < 256 ^ n
  | 0, l, h => by rw [List.length_eq_zero_iff.mp h]; decide
  | n + 1, l, h => by
    have hne : l ≠ [] := fun e => by rw [e] at h; simp at h
    have e := List.dropLast_concat_getLast hne
    rw [← e, beOf_snoc]
    have h1 := beOf_lt n l.dropLast (by simp [h])
    have h2 : (l.getLast hne).toNat < 256 := (l.getLast hne).toNat_lt
    rw [Nat.pow_succ]
    omega
/-- A text from its code's beginning, and what is behind it. -/
def unesc : Bs → Option (Bs × Bs)
  | [] => none
  | [_] => none
  | b :: c :: r => if b = 0 then (if c = 0 then some ([], r) else if c = 255 then (unesc r).map (fun p => (0 :: p.1, p.2)) else none) else (unesc (c :: r)).map fun p => (b :: p.1, p.2)
/-- What lies ahead of the first 0, and behind it. -/
def cutZ : Bs → Bs × Bs
  | [] => ([], [])
  | b :: t => if b = 0 then ([], t) else (b :: (cutZ t).1, (cutZ t).2)
theorem cutZ_len : ∀ t : Bs, (cutZ t).1.length + (cutZ t).2.length ≤ t.length
  | [] => by simp [cutZ]
  | b :: t => by
    unfold cutZ
    have := cutZ_len t
    split <;> simp <;> omega
theorem unesc_nz (b : UInt8) (t : Bs) (h : b ≠ 0) : unesc (b :: t) = (unesc t).map fun p => (b :: p.1, p.2) := by
  cases t with
  | nil => rfl
  | cons c r => rw [unesc, if_neg h]
/-- What a cut tells of a text. -/
def afterCut (p : Bs) : Bs → Option (Bs × Bs)
  | [] => none
  | c :: r => if c = 0 then some (p, r) else if c = 255 then (unesc r).map (fun q => (p ++ 0 :: q.1, q.2)) else none
theorem unesc_cut : ∀ t : Bs, unesc t = afterCut (cutZ t).1 (cutZ t).2
  | [] => rfl
  | b :: t => by
    by_cases h : b = 0
    · subst h
      have e : cutZ (0 :: t) = ([], t) := by simp [cutZ]
      rw [e]
      cases t with
      | nil => rfl
      | cons c r => simp [unesc, afterCut]
    · have e : cutZ (b :: t) = (b :: (cutZ t).1, (cutZ t).2) := by simp [cutZ, h]
      rw [e, unesc_nz b t h, unesc_cut t]
      dsimp only
      cases (cutZ t).2 with
      | nil => rfl
      | cons c r =>
        unfold afterCut
        by_cases h0 : c = 0
        · simp [h0]
        · by_cases h1 : c = 255
          · simp [h0, h1, Option.map_map, Function.comp_def]
          · simp [h0, h1]
theorem unesc_len : ∀ {t s r : Bs}, unesc t = some (s, r) → s.length + r.length + 2 ≤ t.length
  | [], s, r, h => by cases h
  | [_], s, r, h => by cases h
  | b :: c :: q, s, r, h => by
    rw [unesc] at h
    split at h
    · split at h
      · cases h; simp
      · split at h
        · obtain ⟨p, hp, he⟩ := Option.map_eq_some_iff.mp h
          cases he
          have := unesc_len (s := p.1) (r := p.2) hp
          simp; omega
        · cases h
    · obtain ⟨p, hp, he⟩ := Option.map_eq_some_iff.mp h
      cases he
      have := unesc_len (s := p.1) (r := p.2) hp
      simp at this ⊢; omega
/-- One value of a tuple. -/
structure ValD where
  u : Nat
  i : Int
  s : Bs
/-- A value of a kind, from a text's beginning. -/
def rdV (k : Int) (t : Bs) : Option (ValD × Bs) :=
  if k = 9 then (unesc t).map fun p => (⟨0, 0, p.1⟩, p.2)
  else if t.length < widthOf k then none
  else some (if 5 ≤ k then ⟨0, (beOf (t.take (widthOf k)) : Int) - 2 ^ (8 * widthOf k - 1), []⟩ else ⟨beOf (t.take (widthOf k)), 0, []⟩, t.drop (widthOf k))
theorem rdV_len {k : Int} {t : Bs} {v : ValD} {r : Bs} (h : rdV k t = some (v, r)) : v.s.length + r.length ≤ t.length := by
  unfold rdV at h
  split at h
  · obtain ⟨p, hp, he⟩ := Option.map_eq_some_iff.mp h
    cases he
    have := unesc_len (s := p.1) (r := p.2) hp
    simp; omega
  · split at h
    · cases h
    · cases h
      split <;> simp <;> omega
def rdAll : List Int → Bs → Option (List ValD)
  | [], t => if t = [] then some [] else none
  | k :: ks, t => match rdV k t with
    | none => none
    | some (v, r) => (rdAll ks r).map (v :: ·)
def IsSch (ks : List Int) : Prop := (1 ≤ ks.length ∧ ks.length ≤ 6) ∧ ∀ k ∈ ks, 1 ≤ k ∧ k ≤ 9
theorem IsSch.all {ks : List Int} (h : IsSch ks) {k : Int} (hk : k ∈ ks) : 1 ≤ k ∧ k ≤ 9 := h.2 k hk
instance (ks : List Int) : Decidable (IsSch ks) := by unfold IsSch; infer_instance
/-- The value, as a value of the program. -/
def valV (v : ValD) : Value := .agg #[.int .u64 v.u, .int .i64 v.i, .string ⟨v.s.toArray⟩]
def cellsV (v : ValD) : List Value := [.int .u64 v.u, .int .i64 v.i, .string ⟨v.s.toArray⟩]

end Go.Proofs.Ytcgjppacnhmjlaa
