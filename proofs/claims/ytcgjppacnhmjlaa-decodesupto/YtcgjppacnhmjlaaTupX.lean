/- What the document's own reader takes of a text, and that it is what can be read: no program in it. -/
import Derived.Test.YtcgjppacnhmjlaaTupV
set_option linter.unusedVariables false
set_option linter.unusedSimpArgs false
namespace Go.Proofs.Ytcgjppacnhmjlaa
open Go.RowKit Go.Shelf

/-- The letters of a text, up to where its code ends or breaks. -/
def rdS : Bs → Bs
  | [] => []
  | [b] => if b = 0 then [] else [b]
  | b :: c :: r => if b = 0 then (if c = 255 then 0 :: rdS r else []) else b :: rdS (c :: r)
theorem rdS_nz (b : UInt8) (t : Bs) (h : b ≠ 0) : rdS (b :: t) = b :: rdS t := by
  cases t with
  | nil => simp [rdS, h]
  | cons c r => rw [rdS, if_neg h]
theorem rdS_esc (r : Bs) : rdS (0 :: 255 :: r) = 0 :: rdS r := by rw [rdS, if_pos rfl, if_pos rfl]
theorem rdS_end (t : Bs) (h : ∀ r, t ≠ 255 :: r) : rdS (0 :: t) = [] := by
  cases t with
  | nil => simp [rdS]
  | cons c r =>
    rw [rdS, if_pos rfl, if_neg]
    intro e; subst e; exact h r rfl
theorem rdS_len : ∀ t : Bs, (rdS t).length ≤ t.length
  | [] => by simp [rdS]
  | [b] => by simp [rdS]; split <;> simp
  | b :: c :: r => by
    rw [rdS]
    have h1 := rdS_len r
    have h2 := rdS_len (c :: r)
    split
    · split <;> simp <;> omega
    · simp at h2 ⊢; omega
theorem rdS_unesc : ∀ {t s r : Bs}, unesc t = some (s, r) → rdS t = s
  | [], s, r, h => by cases h
  | [_], s, r, h => by cases h
  | b :: c :: q, s, r, h => by
    rw [unesc] at h
    rw [rdS]
    split at h
    · rename_i hb
      rw [if_pos hb]
      split at h
      · rename_i hc
        cases h
        rw [if_neg (by rw [hc]; decide)]
      · split at h
        · rename_i hc
          obtain ⟨p, hp, he⟩ := Option.map_eq_some_iff.mp h
          cases he
          rw [if_pos hc, rdS_unesc (s := p.1) (r := p.2) hp]
        · cases h
    · rename_i hb
      obtain ⟨p, hp, he⟩ := Option.map_eq_some_iff.mp h
      cases he
      rw [if_neg hb, rdS_unesc (s := p.1) (r := p.2) hp]
theorem unesc_of_pre : ∀ t : Bs, esc (rdS t) ++ [0, 0] <+: t → ∃ r, unesc t = some (rdS t, r)
  | [], h => by have := h.length_le; simp at this
  | [b], h => by have := h.length_le; simp at this
  | b :: c :: q, h => by
    rw [rdS] at h ⊢
    rw [unesc]
    by_cases hb : b = 0
    · subst hb
      rw [if_pos rfl] at h ⊢
      rw [if_pos rfl]
      by_cases hc : c = 255
      · subst hc
        rw [if_pos rfl] at h ⊢
        have h' : esc (rdS q) ++ [0, 0] <+: q := by
          simpa [esc, List.cons_prefix_cons] using h
        obtain ⟨r, hr⟩ := unesc_of_pre q h'
        exact ⟨r, by simp [hr]⟩
      · rw [if_neg hc] at h ⊢
        have hc0 : c = 0 := by
          simp [esc, List.cons_prefix_cons] at h
          exact h.symm
        exact ⟨q, by simp [hc0]⟩
    · rw [if_neg hb] at h ⊢
      rw [if_neg hb]
      have h' : esc (rdS (c :: q)) ++ [0, 0] <+: c :: q := by
        have e : esc (b :: rdS (c :: q)) = b :: esc (rdS (c :: q)) := by rw [esc, if_neg hb]
        rw [e, List.cons_append, List.cons_prefix_cons] at h
        exact h.2
      obtain ⟨r, hr⟩ := unesc_of_pre (c :: q) h'
      exact ⟨r, by rw [hr]; rfl⟩
/-- The value that the document's reader takes. -/
def refV (k : Int) (t : Bs) : ValD := if k = 9 then ⟨0, 0, rdS t⟩ else if 5 ≤ k then ⟨0, (beOf (t.take (widthOf k)) : Int) - 2 ^ (8 * widthOf k - 1), []⟩ else ⟨beOf (t.take (widthOf k)), 0, []⟩
theorem beOf_take_lt (t : Bs) (n : Nat) : beOf (t.take n) < 256 ^ n := by
  have h1 := beOf_lt _ (t.take n) rfl
  have h2 : (t.take n).length ≤ n := by simp; omega
  exact Nat.lt_of_lt_of_le h1 (Nat.pow_le_pow_right (by decide) h2)
set_option maxRecDepth 100000 in
theorem refV_fit (k : Int) (t : Bs) : FitV k (refV k t) := by
  unfold FitV refV
  by_cases h9 : k = 9
  · rw [if_pos h9, if_pos h9]; exact ⟨rfl, rfl⟩
  · rw [if_neg h9, if_neg h9]
    have h := beOf_take_lt t (widthOf k)
    have hph := pow_half k
    have hltI : ((beOf (t.take (widthOf k)) : Nat) : Int) < 256 ^ widthOf k := by
      have e : ((256 ^ widthOf k : Nat) : Int) = (256 : Int) ^ widthOf k := by norm_cast
      rw [← e]; exact Int.ofNat_lt.mpr h
    by_cases h5 : 5 ≤ k
    · rw [if_pos h5, if_pos h5]
      exact ⟨rfl, rfl, by dsimp only; omega, by dsimp only; omega⟩
    · rw [if_neg h5, if_neg h5]
      exact ⟨rfl, rfl, h⟩
theorem refV_s (k : Int) (t : Bs) : (refV k t).s.length ≤ t.length := by
  unfold refV
  split
  · exact rdS_len t
  · split <;> simp
theorem rdV_is {k : Int} {t : Bs} {v : ValD} {r : Bs} (h : rdV k t = some (v, r)) : v = refV k t := by
  unfold rdV at h
  unfold refV
  split at h
  · rename_i hk
    obtain ⟨p, hp, he⟩ := Option.map_eq_some_iff.mp h
    cases he
    rw [if_pos hk, rdS_unesc (s := p.1) (r := p.2) hp]
  · rename_i hk
    rw [if_neg hk]
    split at h
    · cases h
    · cases h; rfl
theorem rdV_yes {k : Int} {t : Bs} (h : encV k (refV k t) <+: t) : rdV k t = some (refV k t, t.drop (encV k (refV k t)).length) := by
  have key : ∃ r, rdV k t = some (refV k t, r) := by
    by_cases h9 : k = 9
    · have e : refV k t = ⟨0, 0, rdS t⟩ := by unfold refV; rw [if_pos h9]
      rw [e] at h ⊢
      unfold encV at h
      rw [if_pos h9] at h
      obtain ⟨r, hr⟩ := unesc_of_pre t h
      exact ⟨r, by unfold rdV; rw [if_pos h9, hr]; rfl⟩
    · unfold encV at h
      rw [if_neg h9] at h
      have hl := h.length_le
      rw [dg_len] at hl
      refine ⟨t.drop (widthOf k), ?_⟩
      unfold rdV refV
      rw [if_neg h9, if_neg (by omega), if_neg h9]
  obtain ⟨r, hr⟩ := key
  have hb := (rdV_back hr).2
  rw [hr]
  congr 2
  have e : ∀ (a b c : Bs), a = b ++ c → c = a.drop b.length := fun a b c h => by rw [h]; simp
  exact e _ _ _ hb
theorem rdV_no {k : Int} {t : Bs} (h : ¬ encV k (refV k t) <+: t) : rdV k t = none := by
  cases hr : rdV k t with
  | none => rfl
  | some p =>
    obtain ⟨v, r⟩ := p
    have hb := (rdV_back hr).2
    rw [rdV_is hr] at hb
    exact absurd ⟨r, hb.symm⟩ h
/-- How far the document's reader has come. -/
def Far (ks : List Int) (t : Bs) (i a : Nat) (us : List ValD) : Prop := us.length = i ∧ a ≤ t.length ∧ rdAll ks t = (rdAll (ks.drop i) (t.drop a)).map (us ++ ·)
theorem Far.start (ks : List Int) (t : Bs) : Far ks t 0 0 [] := ⟨rfl, Nat.zero_le _, by simp⟩
theorem Far.next {ks : List Int} {t : Bs} {i a : Nat} {us : List ValD} {k : Int} (h : Far ks t i a us) (hk : ks[i]? = some k) (hp : encV k (refV k (t.drop a)) <+: t.drop a) : Far ks t (i + 1) (a + (encV k (refV k (t.drop a))).length) (us ++ [refV k (t.drop a)]) := by
  obtain ⟨h1, h2, h3⟩ := h
  have hlt := (List.getElem?_eq_some_iff.mp hk).1
  have hl := hp.length_le
  rw [List.length_drop] at hl
  refine ⟨by simp [h1], by omega, ?_⟩
  have e : ks.drop i = k :: ks.drop (i + 1) := by
    rw [List.drop_eq_getElem_cons hlt]
    congr 1
    exact (List.getElem?_eq_some_iff.mp hk).2
  rw [h3, e, rdAll, rdV_yes hp]
  dsimp only
  rw [Option.map_map, List.drop_drop]
  congr 1
  funext x
  simp
theorem Far.fails {ks : List Int} {t : Bs} {i a : Nat} {us : List ValD} {k : Int} (h : Far ks t i a us) (hk : ks[i]? = some k) (hp : ¬ encV k (refV k (t.drop a)) <+: t.drop a) : rdAll ks t = none := by
  obtain ⟨h1, h2, h3⟩ := h
  have hlt := (List.getElem?_eq_some_iff.mp hk).1
  have e : ks.drop i = k :: ks.drop (i + 1) := by
    rw [List.drop_eq_getElem_cons hlt]
    congr 1
    exact (List.getElem?_eq_some_iff.mp hk).2
  rw [h3, e, rdAll, rdV_no hp]
  rfl
theorem Far.done {ks : List Int} {t : Bs} {a : Nat} {us : List ValD} (h : Far ks t ks.length a us) : (a = t.length → rdAll ks t = some us) ∧ (a ≠ t.length → rdAll ks t = none) := by
  obtain ⟨h1, h2, h3⟩ := h
  rw [List.drop_length] at h3
  refine ⟨fun e => ?_, fun e => ?_⟩
  · rw [h3, e, List.drop_length]; simp [rdAll]
  · rw [h3, rdAll, if_neg]
    · rfl
    · intro e2
      have := congrArg List.length e2
      simp at this
      omega

end Go.Proofs.Ytcgjppacnhmjlaa
