/- What putting a key into a node does to the node's list, its bytes and its groups. -/
import Derived.Test.YtcgjppacnhmjlaaGreatPure
set_option linter.unusedVariables false
set_option linter.unusedSimpArgs false
namespace Go.Proofs.YtcgjppacnhmjlaaGreat
variable {V : Type}

theorem pw_get {xs : List UInt8} (h : xs.Pairwise (· < ·)) {i j : Nat} {x y : UInt8} (hx : xs[i]? = some x) (hy : xs[j]? = some y) (hij : i < j) : x < y := by
  obtain ⟨h1, rfl⟩ := List.getElem?_eq_some_iff.mp hx
  obtain ⟨h2, rfl⟩ := List.getElem?_eq_some_iff.mp hy
  exact List.pairwise_iff_getElem.mp h i j h1 h2 hij
theorem pw_inj {xs : List UInt8} (h : xs.Pairwise (· < ·)) {i j : Nat} {x : UInt8} (hx : xs[i]? = some x) (hy : xs[j]? = some x) : i = j := by
  rcases Nat.lt_trichotomy i j with h1 | h1 | h1
  · exact absurd (pw_get h hx hy h1) (UInt8.lt_irrefl x)
  · exact h1
  · exact absurd (pw_get h hy hx h1) (UInt8.lt_irrefl x)
theorem app_inj {p : List UInt8} {x y : UInt8} {r q : List UInt8} (h : p ++ x :: r = p ++ y :: q) : x = y ∧ r = q := by
  have := List.append_cancel_left h
  exact List.cons.inj this
theorem app_ne {p : List UInt8} {x : UInt8} {r : List UInt8} : p ++ x :: r ≠ p := fun h => by
  have := congrArg List.length h; simp at this

theorem shaped_leaf (k : List UInt8) (v : V) : Shaped k (some v) [] [] [(k, v)] :=
  ⟨⟨rfl, List.Pairwise.nil, fun i g h => by simp at h, fun i x g h => by simp at h, fun i g h => by simp at h⟩, rfl, fun h => by cases h⟩
theorem grps_one {p : List UInt8} {y : UInt8} {l : List (List UInt8 × V)} (hs : Srt l) (hl : l ≠ []) (hp : ∀ e ∈ l, ∃ r, e.1 = p ++ y :: r) : Grps p [y] [l] := by
  refine ⟨rfl, by simp, fun i g h => ?_, fun i x g hx h => ?_, fun i g h => ?_⟩
  all_goals (cases i with
    | zero => (obtain rfl := Option.some.inj h); first | exact hl | exact hs | (obtain rfl := Option.some.inj hx; exact hp)
    | succ i => simp at h)
theorem grps_two {p : List UInt8} {x y : UInt8} {l m : List (List UInt8 × V)} (hs : Srt l) (hl : l ≠ []) (hp : ∀ e ∈ l, ∃ r, e.1 = p ++ x :: r) (hs2 : Srt m) (hm : m ≠ []) (hp2 : ∀ e ∈ m, ∃ r, e.1 = p ++ y :: r) (hxy : x < y) : Grps p [x, y] [l, m] := by
  refine ⟨rfl, by simp [hxy], fun i g h => ?_, fun i z g hx h => ?_, fun i g h => ?_⟩
  all_goals (cases i with
    | zero => (obtain rfl := Option.some.inj h); first | exact hl | exact hs | (obtain rfl := Option.some.inj hx; exact hp)
    | succ i => cases i with
      | zero => (obtain rfl := Option.some.inj h); first | exact hm | exact hs2 | (obtain rfl := Option.some.inj hx; exact hp2)
      | succ i => simp at h)
theorem srt_one (k : List UInt8) (v : V) : Srt [(k, v)] := List.pairwise_singleton _ _

/-- The key is a beginning of the prefix. -/
theorem shaped_over {k : List UInt8} {v : V} {y : UInt8} {l : List (List UInt8 × V)} (hs : Srt l) (hl : l ≠ []) (hp : ∀ e ∈ l, ∃ r, e.1 = k ++ y :: r) : Shaped k (some v) [y] [l] (ins k v l) := by
  have G := grps_one hs hl hp
  refine ⟨G, (ins_eq hs (G.srtAll (some v)) fun e => ?_).symm, fun h => by cases h⟩
  simp only [ownL, List.mem_append, List.mem_singleton, List.flatten_cons, List.flatten_nil, List.append_nil]
  constructor
  · rintro (h | h)
    · exact .inl h
    · obtain ⟨r, hr⟩ := hp e h
      exact .inr ⟨h, hr ▸ app_ne⟩
  · rintro (h | h)
    · exact .inl h
    · exact .inr h.1
/-- The key leaves the prefix ahead of the other keys. -/
theorem shaped_left {c k : List UInt8} {v : V} {x y : UInt8} {r : List UInt8} {l : List (List UInt8 × V)} (hs : Srt l) (hl : l ≠ []) (hk : k = c ++ x :: r) (hp : ∀ e ∈ l, ∃ r, e.1 = c ++ y :: r) (hxy : x < y) : Shaped c none [x, y] [[(k, v)], l] (ins k v l) := by
  have G := grps_two (srt_one k v) (by simp) (fun e he => by simp at he; exact ⟨r, by rw [he, hk]⟩) hs hl hp hxy
  refine ⟨G, (ins_eq hs (G.srtAll none) fun e => ?_).symm, fun _ => by simp⟩
  simp only [ownL, List.nil_append, List.flatten_cons, List.flatten_nil, List.append_nil, List.mem_append, List.mem_singleton]
  constructor
  · rintro (h | h)
    · exact .inl h
    · obtain ⟨q, hq⟩ := hp e h
      exact .inr ⟨h, fun h2 => by rw [hq, hk] at h2; exact UInt8.lt_irrefl x ((app_inj h2).1 ▸ hxy)⟩
  · rintro (h | h)
    · exact .inl h
    · exact .inr h.1
theorem shaped_right {c k : List UInt8} {v : V} {x y : UInt8} {r : List UInt8} {l : List (List UInt8 × V)} (hs : Srt l) (hl : l ≠ []) (hk : k = c ++ x :: r) (hp : ∀ e ∈ l, ∃ r, e.1 = c ++ y :: r) (hxy : y < x) : Shaped c none [y, x] [l, [(k, v)]] (ins k v l) := by
  have G := grps_two hs hl hp (srt_one k v) (by simp) (fun e he => by simp at he; exact ⟨r, by rw [he, hk]⟩) hxy
  refine ⟨G, (ins_eq hs (G.srtAll none) fun e => ?_).symm, fun _ => by simp⟩
  simp only [ownL, List.nil_append, List.flatten_cons, List.flatten_nil, List.append_nil, List.mem_append, List.mem_singleton]
  constructor
  · rintro (h | h)
    · obtain ⟨q, hq⟩ := hp e h
      exact .inr ⟨h, fun h2 => by rw [hq, hk] at h2; exact UInt8.lt_irrefl y ((app_inj h2).1 ▸ hxy)⟩
    · exact .inl h
  · rintro (h | h)
    · exact .inr h
    · exact .inl h.1
/-- The key is the prefix. -/
theorem Shaped.put {p xs : List UInt8} {ov : Option V} {gs : List (List (List UInt8 × V))} {l : List (List UInt8 × V)} (h : Shaped p ov xs gs l) (v : V) : Shaped p (some v) xs gs (ins p v l) := by
  refine ⟨h.grps, (ins_eq h.srt (h.grps.srtAll (some v)) fun e => ?_).symm, fun h => by cases h⟩
  rw [List.mem_append, mem_ownL, h.eq, List.mem_append, mem_ownL]
  constructor
  · rintro (⟨h1, h2⟩ | h1)
    · exact .inl (Prod.ext h1 (Option.some.inj h2).symm)
    · obtain ⟨x, r, hr⟩ := h.grps.front h1
      exact .inr ⟨.inr h1, hr ▸ app_ne⟩
  · rintro (h1 | ⟨h1 | h1, h2⟩)
    · exact .inl (by rw [h1]; exact ⟨rfl, rfl⟩)
    · exact absurd h1.1 h2
    · exact .inr h1
/-- The key goes into a group. -/
theorem Shaped.into {p xs : List UInt8} {ov : Option V} {gs : List (List (List UInt8 × V))} {l : List (List UInt8 × V)} (h : Shaped p ov xs gs l) {k r : List UInt8} {x : UInt8} (hk : k = p ++ x :: r) {i : Nat} (hx : xs[i]? = some x) {g : List (List UInt8 × V)} (hg : gs[i]? = some g) (v : V) :
    Shaped p ov xs (gs.take i ++ ins k v g :: gs.drop (i + 1)) (ins k v l) := by
  have hi := (List.getElem?_eq_some_iff.mp hg).1
  have gr := getElem?_rep gs i
  have G : Grps p xs (gs.take i ++ ins k v g :: gs.drop (i + 1)) := by
    refine ⟨by rw [h.grps.len]; simp; omega, h.grps.pw, fun j m hm => ?_, fun j y m hy hm => ?_, fun j m hm => ?_⟩ <;> rw [gr _ _ hi] at hm
    · by_cases e : j = i
      · rw [if_pos e] at hm; obtain rfl := Option.some.inj hm
        intro h3; have : (k, v) ∈ ins k v g := mem_ins.mpr (.inl rfl); rw [h3] at this; cases this
      · rw [if_neg e] at hm; exact h.grps.some' j m hm
    · by_cases e : j = i
      · rw [if_pos e] at hm; obtain rfl := Option.some.inj hm
        subst e; rw [hx] at hy; obtain rfl := Option.some.inj hy
        intro e he
        rcases mem_ins.mp he with h3 | h3
        · exact ⟨r, by rw [h3, hk]⟩
        · exact h.grps.pre _ _ g hx hg e h3.1
      · rw [if_neg e] at hm; exact h.grps.pre j y m hy hm
    · by_cases e : j = i
      · rw [if_pos e] at hm; obtain rfl := Option.some.inj hm
        exact srt_ins (h.grps.srt i g hg)
      · rw [if_neg e] at hm; exact h.grps.srt j m hm
  refine ⟨G, (ins_eq h.srt (G.srtAll ov) fun e => ?_).symm, fun h3 => by have := h.two h3; simp; omega⟩
  rw [List.mem_append, mem_ownL, mem_flat, h.mem]
  constructor
  · rintro (h1 | ⟨j, m, hm, he⟩)
    · exact .inr ⟨.inl h1, by rw [h1.1, hk]; exact app_ne.symm⟩
    · rw [gr _ _ hi] at hm
      by_cases ej : j = i
      · rw [if_pos ej] at hm; obtain rfl := Option.some.inj hm
        rcases mem_ins.mp he with h3 | h3
        · exact .inl h3
        · exact .inr ⟨.inr ⟨i, g, hg, h3.1⟩, h3.2⟩
      · rw [if_neg ej] at hm
        refine .inr ⟨.inr ⟨j, m, hm, he⟩, fun h3 => ej ?_⟩
        obtain ⟨y, hy⟩ := h.grps.byte hm
        obtain ⟨q, hq⟩ := h.grps.pre j y m hy hm e he
        rw [hq, hk] at h3
        obtain ⟨rfl, _⟩ := app_inj h3
        exact pw_inj h.grps.pw hy hx
  · rintro (h1 | ⟨h1 | ⟨j, m, hm, he⟩, h2⟩)
    · exact .inr ⟨i, ins k v g, by rw [gr _ _ hi, if_pos rfl], mem_ins.mpr (.inl h1)⟩
    · exact .inl h1
    · by_cases ej : j = i
      · subst ej; rw [hg] at hm; obtain rfl := Option.some.inj hm
        exact .inr ⟨j, ins k v g, by rw [gr _ _ hi, if_pos rfl], mem_ins.mpr (.inr ⟨he, h2⟩)⟩
      · exact .inr ⟨j, m, by rw [gr _ _ hi, if_neg ej]; exact hm, he⟩
/-- The key makes a group of its own. -/
theorem Shaped.beside {p xs : List UInt8} {ov : Option V} {gs : List (List (List UInt8 × V))} {l : List (List UInt8 × V)} (h : Shaped p ov xs gs l) {k r : List UInt8} {x : UInt8} (hk : k = p ++ x :: r) (hx : xs[posOf x xs]? ≠ some x) (v : V) :
    Shaped p ov (xs.take (posOf x xs) ++ x :: xs.drop (posOf x xs)) (gs.take (posOf x xs) ++ [(k, v)] :: gs.drop (posOf x xs)) (ins k v l) := by
  obtain ⟨s1, s2, s3⟩ := posOf_spec x xs h.grps.pw
  generalize posOf x xs = i at *
  have hi : i ≤ gs.length := by rw [← h.grps.len]; exact s1
  have hgt : ∀ (t : Nat) y, i ≤ t → xs[t]? = some y → x < y := by
    intro t y ht hy
    have h1 := s3 t y ht hy
    rcases UInt8.lt_or_eq_of_le (UInt8.not_lt.mp h1) with h2 | h2
    · exact h2
    · subst h2
      exfalso
      rcases Nat.lt_or_eq_of_le ht with h3 | h3
      · obtain ⟨z, hz⟩ : ∃ z, xs[i]? = some z := ⟨xs[i]'(by have := (List.getElem?_eq_some_iff.mp hy).1; omega), List.getElem?_eq_getElem _⟩
        exact s3 i z (Nat.le_refl _) hz (pw_get h.grps.pw hz hy h3)
      · exact hx (h3 ▸ hy)
  have G : Grps p (xs.take i ++ x :: xs.drop i) (gs.take i ++ [(k, v)] :: gs.drop i) := by
    refine ⟨by have := h.grps.len; simp; omega, ?_, fun j m hm => ?_, fun j y m hy hm => ?_, fun j m hm => ?_⟩
    · rw [List.pairwise_append, List.pairwise_cons]
      refine ⟨List.Pairwise.sublist (List.take_sublist _ _) h.grps.pw, ⟨fun b hb => ?_, List.Pairwise.sublist (List.drop_sublist _ _) h.grps.pw⟩, fun a ha b hb => ?_⟩
      · obtain ⟨j, hj⟩ := List.mem_iff_getElem?.mp hb
        rw [List.getElem?_drop] at hj
        exact hgt _ b (by omega) hj
      · obtain ⟨j, hj⟩ := List.mem_iff_getElem?.mp ha
        rw [List.getElem?_take] at hj
        split at hj
        · rcases List.mem_cons.mp hb with rfl | hb
          · exact s2 j a ‹_› hj
          · obtain ⟨j2, hj2⟩ := List.mem_iff_getElem?.mp hb
            rw [List.getElem?_drop] at hj2
            exact UInt8.lt_trans (s2 j a ‹_› hj) (hgt _ b (by omega) hj2)
        · cases hj
    · rw [getElem?_put _ _ _ _ hi] at hm
      split at hm
      · exact h.grps.some' j m hm
      · split at hm
        · obtain rfl := Option.some.inj hm; simp
        · exact h.grps.some' _ m hm
    · rw [getElem?_put _ _ _ _ hi] at hm
      rw [getElem?_put _ _ _ _ s1] at hy
      split at hm
      · rw [if_pos ‹_›] at hy; exact h.grps.pre j y m hy hm
      · rw [if_neg ‹_›] at hy
        split at hm
        · rw [if_pos ‹_›] at hy
          obtain rfl := Option.some.inj hm; obtain rfl := Option.some.inj hy
          intro e he; simp at he; exact ⟨r, by rw [he, hk]⟩
        · rw [if_neg ‹_›] at hy; exact h.grps.pre _ y m hy hm
    · rw [getElem?_put _ _ _ _ hi] at hm
      split at hm
      · exact h.grps.srt j m hm
      · split at hm
        · obtain rfl := Option.some.inj hm; exact srt_one k v
        · exact h.grps.srt _ m hm
  refine ⟨G, (ins_eq h.srt (G.srtAll ov) fun e => ?_).symm, fun h3 => by have := h.two h3; simp; omega⟩
  rw [List.mem_append, mem_ownL, mem_flat, h.mem]
  constructor
  · rintro (h1 | ⟨j, m, hm, he⟩)
    · exact .inr ⟨.inl h1, by rw [h1.1, hk]; exact app_ne.symm⟩
    · have old : ∀ (j' : Nat), gs[j']? = some m → e = (k, v) ∨ ((e.1 = p ∧ ov = some e.2) ∨ ∃ (i : Nat) (g : List (List UInt8 × V)), gs[i]? = some g ∧ e ∈ g) ∧ e.1 ≠ k := by
        intro j' hm'
        refine .inr ⟨.inr ⟨j', m, hm', he⟩, fun h3 => ?_⟩
        obtain ⟨y, hy⟩ := h.grps.byte hm'
        obtain ⟨q, hq⟩ := h.grps.pre j' y m hy hm' e he
        rw [hq, hk] at h3
        obtain ⟨rfl, _⟩ := app_inj h3
        rcases Nat.lt_or_ge j' i with h4 | h4
        · exact UInt8.lt_irrefl _ (s2 j' _ h4 hy)
        · exact UInt8.lt_irrefl _ (hgt j' _ h4 hy)
      rw [getElem?_put _ _ _ _ hi] at hm
      split at hm
      · exact old _ hm
      · split at hm
        · obtain rfl := Option.some.inj hm; simp at he; exact .inl he
        · exact old _ hm
  · rintro (h1 | ⟨h1 | ⟨j, m, hm, he⟩, h2⟩)
    · exact .inr ⟨i, [(k, v)], by rw [getElem?_put _ _ _ _ hi]; simp, by simp [h1]⟩
    · exact .inl h1
    · by_cases ej : j < i
      · exact .inr ⟨j, m, by rw [getElem?_put _ _ _ _ hi, if_pos ej]; exact hm, he⟩
      · exact .inr ⟨j + 1, m, by rw [getElem?_put _ _ _ _ hi, if_neg (by omega), if_neg (by omega)]; exact hm, he⟩

end Go.Proofs.YtcgjppacnhmjlaaGreat
