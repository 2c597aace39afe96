/- What taking a key away does to a node's list, its bytes and its groups. -/
import Derived.Test.YtcgjppacnhmjlaaGreatPureB
set_option linter.unusedVariables false
set_option linter.unusedSimpArgs false
namespace Go.Proofs.YtcgjppacnhmjlaaGreat
variable {V : Type}

theorem Shaped.del_own {p xs : List UInt8} {ov : Option V} {gs : List (List (List UInt8 × V))} {l : List (List UInt8 × V)} (h : Shaped p ov xs gs l) : del p l = gs.flatten := by
  refine (del_eq h.srt h.grps.srtFlat fun e => ?_).symm
  rw [h.eq, List.mem_append, mem_ownL]
  constructor
  · intro h1
    obtain ⟨x, r, hr⟩ := h.grps.front h1
    exact ⟨.inr h1, hr ▸ app_ne⟩
  · rintro ⟨h1 | h1, h2⟩
    · exact absurd h1.1 h2
    · exact h1
theorem Shaped.without {p xs : List UInt8} {ov : Option V} {gs : List (List (List UInt8 × V))} {l : List (List UInt8 × V)} (h : Shaped p ov xs gs l) (h2 : 2 ≤ gs.length) : Shaped p none xs gs (del p l) :=
  ⟨h.grps, by rw [h.del_own]; rfl, fun _ => h2⟩
theorem getElem?_cut {α : Type} (L : List α) (i j : Nat) (hi : i < L.length) : (L.take i ++ L.drop (i + 1))[j]? = if j < i then L[j]? else L[j + 1]? := by
  by_cases h1 : j < i
  · rw [if_pos h1, List.getElem?_append_left (by simp; omega), List.getElem?_take, if_pos h1]
  · rw [if_neg h1, List.getElem?_append_right (by simp; omega), List.getElem?_drop]
    congr 1; simp; omega
theorem len_cut {α : Type} (L : List α) (i : Nat) (hi : i < L.length) : (L.take i ++ L.drop (i + 1)).length + 1 = L.length := by simp; omega
/-- Whose key is in a group it is that group's. -/
theorem Shaped.home {p xs : List UInt8} {ov : Option V} {gs : List (List (List UInt8 × V))} {l : List (List UInt8 × V)} (h : Shaped p ov xs gs l) {k r : List UInt8} {x : UInt8} (hk : k = p ++ x :: r) {i : Nat} (hx : xs[i]? = some x) {j : Nat} {m : List (List UInt8 × V)} (hj : gs[j]? = some m) {e : List UInt8 × V} (he : e ∈ m) (hek : e.1 = k) : j = i := by
  obtain ⟨y, hy⟩ := h.grps.byte hj
  obtain ⟨q, hq⟩ := h.grps.pre j y m hy hj e he
  rw [hek, hk] at hq
  obtain ⟨rfl, _⟩ := app_inj hq
  exact pw_inj h.grps.pw hy hx
theorem Shaped.del_into {p xs : List UInt8} {ov : Option V} {gs : List (List (List UInt8 × V))} {l : List (List UInt8 × V)} (h : Shaped p ov xs gs l) {k r : List UInt8} {x : UInt8} (hk : k = p ++ x :: r) {i : Nat} (hx : xs[i]? = some x) {g : List (List UInt8 × V)} (hg : gs[i]? = some g) (hne : del k g ≠ []) :
    Shaped p ov xs (gs.take i ++ del k g :: gs.drop (i + 1)) (del k l) := by
  have hi := (List.getElem?_eq_some_iff.mp hg).1
  have gr := getElem?_rep gs i
  have G : Grps p xs (gs.take i ++ del k g :: gs.drop (i + 1)) := by
    refine ⟨by rw [h.grps.len]; simp; omega, h.grps.pw, fun j m hm => ?_, fun j y m hy hm => ?_, fun j m hm => ?_⟩ <;> rw [gr _ _ hi] at hm
    · by_cases e : j = i
      · rw [if_pos e] at hm; obtain rfl := Option.some.inj hm; exact hne
      · rw [if_neg e] at hm; exact h.grps.some' j m hm
    · by_cases e : j = i
      · rw [if_pos e] at hm; obtain rfl := Option.some.inj hm
        subst e
        exact fun e he => h.grps.pre _ _ g hy hg e (mem_del.mp he).1
      · rw [if_neg e] at hm; exact h.grps.pre j y m hy hm
    · by_cases e : j = i
      · rw [if_pos e] at hm; obtain rfl := Option.some.inj hm
        exact srt_del (h.grps.srt i g hg)
      · rw [if_neg e] at hm; exact h.grps.srt j m hm
  refine ⟨G, (del_eq h.srt (G.srtAll ov) fun e => ?_).symm, fun h3 => by have := h.two h3; simp; omega⟩
  rw [List.mem_append, mem_ownL, mem_flat, h.mem]
  constructor
  · rintro (h1 | ⟨j, m, hm, he⟩)
    · exact ⟨.inl h1, by rw [h1.1, hk]; exact app_ne.symm⟩
    · rw [gr _ _ hi] at hm
      by_cases ej : j = i
      · rw [if_pos ej] at hm; obtain rfl := Option.some.inj hm
        exact ⟨.inr ⟨i, g, hg, (mem_del.mp he).1⟩, (mem_del.mp he).2⟩
      · rw [if_neg ej] at hm
        exact ⟨.inr ⟨j, m, hm, he⟩, fun h3 => ej (h.home hk hx hm he h3)⟩
  · rintro ⟨h1 | ⟨j, m, hm, he⟩, h2⟩
    · exact .inl h1
    · by_cases ej : j = i
      · subst ej; rw [hg] at hm; obtain rfl := Option.some.inj hm
        exact .inr ⟨j, del k g, by rw [gr _ _ hi, if_pos rfl], mem_del.mpr ⟨he, h2⟩⟩
      · exact .inr ⟨j, m, by rw [gr _ _ hi, if_neg ej]; exact hm, he⟩
/-- A group goes whole. -/
theorem Shaped.del_away {p xs : List UInt8} {ov : Option V} {gs : List (List (List UInt8 × V))} {l : List (List UInt8 × V)} (h : Shaped p ov xs gs l) {k r : List UInt8} {x : UInt8} (hk : k = p ++ x :: r) {i : Nat} (hx : xs[i]? = some x) {g : List (List UInt8 × V)} (hg : gs[i]? = some g) (hne : del k g = []) :
    Grps p (xs.take i ++ xs.drop (i + 1)) (gs.take i ++ gs.drop (i + 1)) ∧ del k l = ownL p ov ++ (gs.take i ++ gs.drop (i + 1)).flatten := by
  have hi := (List.getElem?_eq_some_iff.mp hg).1
  have hix : i < xs.length := by rw [h.grps.len]; exact hi
  have gr := getElem?_cut gs i
  have G : Grps p (xs.take i ++ xs.drop (i + 1)) (gs.take i ++ gs.drop (i + 1)) := by
    refine ⟨by have := h.grps.len; simp; omega, ?_, fun j m hm => ?_, fun j y m hy hm => ?_, fun j m hm => ?_⟩
    · refine List.Pairwise.sublist ?_ h.grps.pw
      conv => rhs; rw [← List.take_append_drop i xs]
      exact List.Sublist.append_left (by rw [List.drop_eq_getElem_cons hix]; exact List.sublist_cons_self _ _) _
    all_goals (rw [gr _ hi] at hm; split at hm)
    · exact h.grps.some' _ m hm
    · exact h.grps.some' _ m hm
    · rw [getElem?_cut _ _ _ hix, if_pos ‹_›] at hy; exact h.grps.pre _ y m hy hm
    · rw [getElem?_cut _ _ _ hix, if_neg ‹_›] at hy; exact h.grps.pre _ y m hy hm
    · exact h.grps.srt _ m hm
    · exact h.grps.srt _ m hm
  refine ⟨G, (del_eq h.srt (G.srtAll ov) fun e => ?_).symm⟩
  rw [List.mem_append, mem_ownL, mem_flat, h.mem]
  constructor
  · rintro (h1 | ⟨j, m, hm, he⟩)
    · exact ⟨.inl h1, by rw [h1.1, hk]; exact app_ne.symm⟩
    · rw [gr _ hi] at hm
      by_cases ej : j < i
      · rw [if_pos ej] at hm
        exact ⟨.inr ⟨j, m, hm, he⟩, fun h3 => by have := h.home hk hx hm he h3; omega⟩
      · rw [if_neg ej] at hm
        exact ⟨.inr ⟨j + 1, m, hm, he⟩, fun h3 => by have := h.home hk hx hm he h3; omega⟩
  · rintro ⟨h1 | ⟨j, m, hm, he⟩, h2⟩
    · exact .inl h1
    · rcases Nat.lt_trichotomy j i with h3 | h3 | h3
      · exact .inr ⟨j, m, by rw [gr _ hi, if_pos h3]; exact hm, he⟩
      · subst h3; rw [hg] at hm; obtain rfl := Option.some.inj hm
        have : e ∈ del k g := mem_del.mpr ⟨he, h2⟩
        rw [hne] at this; cases this
      · refine .inr ⟨j - 1, m, ?_, he⟩
        rw [gr _ hi, if_neg (by omega), show j - 1 + 1 = j by omega]; exact hm
theorem len_del {k : List UInt8} {l : List (List UInt8 × V)} (hs : Srt l) {v : V} (h : lk k l = some v) : (del k l).length + 1 = l.length := by
  have hm := lk_mem h
  clear h
  induction l with
  | nil => cases hm
  | cons e r ih =>
    obtain ⟨h1, h2⟩ := List.pairwise_cons.mp hs
    unfold del
    rw [List.filter_cons]
    by_cases he : e.1 = k
    · rw [if_neg (by simpa using he)]
      have : (r.filter fun e => decide (e.1 ≠ k)) = r := List.filter_eq_self.mpr fun e' he' => by
        simp; intro h3; have := h1 e' he'; rw [he, h3] at this; exact klt_irrefl _ this
      rw [this]; rfl
    · rw [if_pos (by simpa using he)]
      have := ih h2 (by rcases List.mem_cons.mp hm with h3 | h3; exact absurd (congrArg Prod.fst h3.symm) he; exact h3)
      simp only [List.length_cons]; unfold del at this; omega

end Go.Proofs.YtcgjppacnhmjlaaGreat
