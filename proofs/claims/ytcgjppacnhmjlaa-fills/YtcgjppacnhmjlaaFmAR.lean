/- Own texts: PPureB, PRep. -/
import Derived.Test.YtcgjppacnhmjlaaFmAP
import Derived.Test.YtcgjppacnhmjlaaFmAQ

section
set_option linter.unusedVariables false
set_option linter.unusedSimpArgs false
set_option linter.unusedSectionVars false
set_option linter.unusedVariables false
set_option linter.unusedSimpArgs false
namespace Go.Proofs.Ytcgjppacnhmjlaa
variable {V : Type}

theorem pw_get {xs : List UInt8} (h : xs.Pairwise (· < ·)) {i j : Nat} {x y : UInt8} (hx : xs[i]? = some x) (hy : xs[j]? = some y) (hij : i < j) : x < y := by
  obtain ⟨h1, rfl⟩ := List.getElem?_eq_some_iff.mp hx
  obtain ⟨h2, rfl⟩ := List.getElem?_eq_some_iff.mp hy
  exact List.pairwise_iff_getElem.mp h i j h1 h2 hij
theorem pw_inj {xs : List UInt8} (h : xs.Pairwise (· < ·)) {i j : Nat} {x : UInt8} (hx : xs[i]? = some x) (hy : xs[j]? = some x) : i = j := by
  rcases Nat.lt_trichotomy i j with h1 | h1 | h1
  · exact absurd (pw_get h hx hy h1) (UInt8.lt_irrefl x)
  · exact h1
  · exact absurd (pw_get h hy hx h1) (UInt8.lt_irrefl x)
theorem app_inj {p : List UInt8} {x y : UInt8} {r q : List UInt8} (h : p ++ x :: r = p ++ y :: q) : x = y ∧ r = q := by
  have := List.append_cancel_left h
  exact List.cons.inj this
theorem app_ne {p : List UInt8} {x : UInt8} {r : List UInt8} : p ++ x :: r ≠ p := fun h => by
  have := congrArg List.length h; simp at this

theorem shaped_leaf (k : List UInt8) (v : V) : Shaped k (some v) [] [] [(k, v)] :=
  ⟨⟨rfl, List.Pairwise.nil, fun i g h => by simp at h, fun i x g h => by simp at h, fun i g h => by simp at h⟩, rfl, fun h => by cases h⟩
theorem grps_one {p : List UInt8} {y : UInt8} {l : List (List UInt8 × V)} (hs : Srt l) (hl : l ≠ []) (hp : ∀ e ∈ l, ∃ r, e.1 = p ++ y :: r) : Grps p [y] [l] := by
  refine ⟨rfl, by simp, fun i g h => ?_, fun i x g hx h => ?_, fun i g h => ?_⟩
  all_goals (cases i with
    | zero => (obtain rfl := Option.some.inj h); first | exact hl | exact hs | (obtain rfl := Option.some.inj hx; exact hp)
    | succ i => simp at h)
theorem grps_two {p : List UInt8} {x y : UInt8} {l m : List (List UInt8 × V)} (hs : Srt l) (hl : l ≠ []) (hp : ∀ e ∈ l, ∃ r, e.1 = p ++ x :: r) (hs2 : Srt m) (hm : m ≠ []) (hp2 : ∀ e ∈ m, ∃ r, e.1 = p ++ y :: r) (hxy : x < y) : Grps p [x, y] [l, m] := by
  refine ⟨rfl, by simp [hxy], fun i g h => ?_, fun i z g hx h => ?_, fun i g h => ?_⟩
  all_goals (cases i with
    | zero => (obtain rfl := Option.some.inj h); first | exact hl | exact hs | (obtain rfl := Option.some.inj hx; exact hp)
    | succ i => cases i with
      | zero => (obtain rfl := Option.some.inj h); first | exact hm | exact hs2 | (obtain rfl := Option.some.inj hx; exact hp2)
      | succ i => simp at h)
theorem srt_one (k : List UInt8) (v : V) : Srt [(k, v)] := List.pairwise_singleton _ _

/-- The key is a beginning of the prefix. -/
theorem shaped_over {k : List UInt8} {v : V} {y : UInt8} {l : List (List UInt8 × V)} (hs : Srt l) (hl : l ≠ []) (hp : ∀ e ∈ l, ∃ r, e.1 = k ++ y :: r) : Shaped k (some v) [y] [l] (ins k v l) := by
  have G := grps_one hs hl hp
  refine ⟨G, (ins_eq hs (G.srtAll (some v)) fun e => ?_).symm, fun h => by cases h⟩
  simp only [ownL, List.mem_append, List.mem_singleton, List.flatten_cons, List.flatten_nil, List.append_nil]
  constructor
  · rintro (h | h)
    · exact .inl h
    · obtain ⟨r, hr⟩ := hp e h
      exact .inr ⟨h, hr ▸ app_ne⟩
  · rintro (h | h)
    · exact .inl h
    · exact .inr h.1
/-- The key leaves the prefix ahead of the other keys. -/
theorem shaped_left {c k : List UInt8} {v : V} {x y : UInt8} {r : List UInt8} {l : List (List UInt8 × V)} (hs : Srt l) (hl : l ≠ []) (hk : k = c ++ x :: r) (hp : ∀ e ∈ l, ∃ r, e.1 = c ++ y :: r) (hxy : x < y) : Shaped c none [x, y] [[(k, v)], l] (ins k v l) := by
  have G := grps_two (srt_one k v) (by simp) (fun e he => by simp at he; exact ⟨r, by rw [he, hk]⟩) hs hl hp hxy
  refine ⟨G, (ins_eq hs (G.srtAll none) fun e => ?_).symm, fun _ => by simp⟩
  simp only [ownL, List.nil_append, List.flatten_cons, List.flatten_nil, List.append_nil, List.mem_append, List.mem_singleton]
  constructor
  · rintro (h | h)
    · exact .inl h
    · obtain ⟨q, hq⟩ := hp e h
      exact .inr ⟨h, fun h2 => by rw [hq, hk] at h2; exact UInt8.lt_irrefl x ((app_inj h2).1 ▸ hxy)⟩
  · rintro (h | h)
    · exact .inl h
    · exact .inr h.1
theorem shaped_right {c k : List UInt8} {v : V} {x y : UInt8} {r : List UInt8} {l : List (List UInt8 × V)} (hs : Srt l) (hl : l ≠ []) (hk : k = c ++ x :: r) (hp : ∀ e ∈ l, ∃ r, e.1 = c ++ y :: r) (hxy : y < x) : Shaped c none [y, x] [l, [(k, v)]] (ins k v l) := by
  have G := grps_two hs hl hp (srt_one k v) (by simp) (fun e he => by simp at he; exact ⟨r, by rw [he, hk]⟩) hxy
  refine ⟨G, (ins_eq hs (G.srtAll none) fun e => ?_).symm, fun _ => by simp⟩
  simp only [ownL, List.nil_append, List.flatten_cons, List.flatten_nil, List.append_nil, List.mem_append, List.mem_singleton]
  constructor
  · rintro (h | h)
    · obtain ⟨q, hq⟩ := hp e h
      exact .inr ⟨h, fun h2 => by rw [hq, hk] at h2; exact UInt8.lt_irrefl y ((app_inj h2).1 ▸ hxy)⟩
    · exact .inl h
  · rintro (h | h)
    · exact .inr h
    · exact .inl h.1
/-- The key is the prefix. -/
theorem Shaped.put {p xs : List UInt8} {ov : Option V} {gs : List (List (List UInt8 × V))} {l : List (List UInt8 × V)} (h : Shaped p ov xs gs l) (v : V) : Shaped p (some v) xs gs (ins p v l) := by
  refine ⟨h.grps, (ins_eq h.srt (h.grps.srtAll (some v)) fun e => ?_).symm, fun h => by cases h⟩
  rw [List.mem_append, mem_ownL, h.eq, List.mem_append, mem_ownL]
  constructor
  · rintro (⟨h1, h2⟩ | h1)
    · exact .inl (Prod.ext h1 (Option.some.inj h2).symm)
    · obtain ⟨x, r, hr⟩ := h.grps.front h1
      exact .inr ⟨.inr h1, hr ▸ app_ne⟩
  · rintro (h1 | ⟨h1 | h1, h2⟩)
    · exact .inl (by rw [h1]; exact ⟨rfl, rfl⟩)
    · exact absurd h1.1 h2
    · exact .inr h1
/-- The key goes into a group. -/
theorem Shaped.into {p xs : List UInt8} {ov : Option V} {gs : List (List (List UInt8 × V))} {l : List (List UInt8 × V)} (h : Shaped p ov xs gs l) {k r : List UInt8} {x : UInt8} (hk : k = p ++ x :: r) {i : Nat} (hx : xs[i]? = some x) {g : List (List UInt8 × V)} (hg : gs[i]? = some g) (v : V) :
    Shaped p ov xs (gs.take i ++ ins k v g :: gs.drop (i + 1)) (ins k v l) := by
  have hi := (List.getElem?_eq_some_iff.mp hg).1
  have gr := getElem?_rep gs i
  have G : Grps p xs (gs.take i ++ ins k v g :: gs.drop (i + 1)) := by
    refine ⟨by rw [h.grps.len]; simp; omega, h.grps.pw, fun j m hm => ?_, fun j y m hy hm => ?_, fun j m hm => ?_⟩ <;> rw [gr _ _ hi] at hm
    · by_cases e : j = i
      · rw [if_pos e] at hm; obtain rfl := Option.some.inj hm
        intro h3; have : (k, v) ∈ ins k v g := mem_ins.mpr (.inl rfl); rw [h3] at this; cases this
      · rw [if_neg e] at hm; exact h.grps.some' j m hm
    · by_cases e : j = i
      · rw [if_pos e] at hm; obtain rfl := Option.some.inj hm
        subst e; rw [hx] at hy; obtain rfl := Option.some.inj hy
        intro e he
        rcases mem_ins.mp he with h3 | h3
        · exact ⟨r, by rw [h3, hk]⟩
        · exact h.grps.pre _ _ g hx hg e h3.1
      · rw [if_neg e] at hm; exact h.grps.pre j y m hy hm
    · by_cases e : j = i
      · rw [if_pos e] at hm; obtain rfl := Option.some.inj hm
        exact srt_ins (h.grps.srt i g hg)
      · rw [if_neg e] at hm; exact h.grps.srt j m hm
  refine ⟨G, (ins_eq h.srt (G.srtAll ov) fun e => ?_).symm, fun h3 => by have := h.two h3; simp; omega⟩
  rw [List.mem_append, mem_ownL, mem_flat, h.mem]
  constructor
  · rintro (h1 | ⟨j, m, hm, he⟩)
    · exact .inr ⟨.inl h1, by rw [h1.1, hk]; exact app_ne.symm⟩
    · rw [gr _ _ hi] at hm
      by_cases ej : j = i
      · rw [if_pos ej] at hm; obtain rfl := Option.some.inj hm
        rcases mem_ins.mp he with h3 | h3
        · exact .inl h3
        · exact .inr ⟨.inr ⟨i, g, hg, h3.1⟩, h3.2⟩
      · rw [if_neg ej] at hm
        refine .inr ⟨.inr ⟨j, m, hm, he⟩, fun h3 => ej ?_⟩
        obtain ⟨y, hy⟩ := h.grps.byte hm
        obtain ⟨q, hq⟩ := h.grps.pre j y m hy hm e he
        rw [hq, hk] at h3
        obtain ⟨rfl, _⟩ := app_inj h3
        exact pw_inj h.grps.pw hy hx
  · rintro (h1 | ⟨h1 | ⟨j, m, hm, he⟩, h2⟩)
    · exact .inr ⟨i, ins k v g, by rw [gr _ _ hi, if_pos rfl], mem_ins.mpr (.inl h1)⟩
    · exact .inl h1
    · by_cases ej : j = i
      · subst ej; rw [hg] at hm; obtain rfl := Option.some.inj hm
        exact .inr ⟨j, ins k v g, by rw [gr _ _ hi, if_pos rfl], mem_ins.mpr (.inr ⟨he, h2⟩)⟩
      · exact .inr ⟨j, m, by rw [gr _ _ hi, if_neg ej]; exact hm, he⟩
/-- The key makes a group of its own. -/
theorem Shaped.beside {p xs : List UInt8} {ov : Option V} {gs : List (List (List UInt8 × V))} {l : List (List UInt8 × V)} (h : Shaped p ov xs gs l) {k r : List UInt8} {x : UInt8} (hk : k = p ++ x :: r) (hx : xs[posOf x xs]? ≠ some x) (v : V) :
    Shaped p ov (xs.take (posOf x xs) ++ x :: xs.drop (posOf x xs)) (gs.take (posOf x xs) ++ [(k, v)] :: gs.drop (posOf x xs)) (ins k v l) := by
  obtain ⟨s1, s2, s3⟩ := posOf_spec x xs h.grps.pw
  generalize posOf x xs = i at *
  have hi : i ≤ gs.length := by rw [← h.grps.len]; exact s1
  have hgt : ∀ (t : Nat) y, i ≤ t → xs[t]? = some y → x < y := by
    intro t y ht hy
    have h1 := s3 t y ht hy
    rcases UInt8.lt_or_eq_of_le (UInt8.not_lt.mp h1) with h2 | h2
    · exact h2
    · subst h2
      exfalso
      rcases Nat.lt_or_eq_of_le ht with h3 | h3
      · obtain ⟨z, hz⟩ : ∃ z, xs[i]? = some z := ⟨xs[i]'(by have := (List.getElem?_eq_some_iff.mp hy).1; omega), List.getElem?_eq_getElem _⟩
        exact s3 i z (Nat.le_refl _) hz (pw_get h.grps.pw hz hy h3)
      · exact hx (h3 ▸ hy)
  have G : Grps p (xs.take i ++ x :: xs.drop i) (gs.take i ++ [(k, v)] :: gs.drop i) := by
    refine ⟨by have := h.grps.len; simp; omega, ?_, fun j m hm => ?_, fun j y m hy hm => ?_, fun j m hm => ?_⟩
    · rw [List.pairwise_append, List.pairwise_cons]
      refine ⟨List.Pairwise.sublist (List.take_sublist _ _) h.grps.pw, ⟨fun b hb => ?_, List.Pairwise.sublist (List.drop_sublist _ _) h.grps.pw⟩, fun a ha b hb => ?_⟩
      · obtain ⟨j, hj⟩ := List.mem_iff_getElem?.mp hb
        rw [List.getElem?_drop] at hj
        exact hgt _ b (by omega) hj
      · obtain ⟨j, hj⟩ := List.mem_iff_getElem?.mp ha
        rw [List.getElem?_take] at hj
        split at hj
        · rcases List.mem_cons.mp hb with rfl | hb
          · exact s2 j a ‹_› hj
          · obtain ⟨j2, hj2⟩ := List.mem_iff_getElem?.mp hb
            rw [List.getElem?_drop] at hj2
            exact UInt8.lt_trans (s2 j a ‹_› hj) (hgt _ b (by omega) hj2)
        · cases hj
    · rw [getElem?_put _ _ _ _ hi] at hm
      split at hm
      · exact h.grps.some' j m hm
      · split at hm
        · obtain rfl := Option.some.inj hm; simp
        · exact h.grps.some' _ m hm
    · rw [getElem?_put _ _ _ _ hi] at hm
      rw [getElem?_put _ _ _ _ s1] at hy
      split at hm
      · rw [if_pos ‹_›] at hy; exact h.grps.pre j y m hy hm
      · rw [if_neg ‹_›] at hy
        split at hm
        · rw [if_pos ‹_›] at hy
          obtain rfl := Option.some.inj hm; obtain rfl := Option.some.inj hy
          intro e he; simp at he; exact ⟨r, by rw [he, hk]⟩
        · rw [if_neg ‹_›] at hy; exact h.grps.pre _ y m hy hm
    · rw [getElem?_put _ _ _ _ hi] at hm
      split at hm
      · exact h.grps.srt j m hm
      · split at hm
        · obtain rfl := Option.some.inj hm; exact srt_one k v
        · exact h.grps.srt _ m hm
  refine ⟨G, (ins_eq h.srt (G.srtAll ov) fun e => ?_).symm, fun h3 => by have := h.two h3; simp; omega⟩
  rw [List.mem_append, mem_ownL, mem_flat, h.mem]
  constructor
  · rintro (h1 | ⟨j, m, hm, he⟩)
    · exact .inr ⟨.inl h1, by rw [h1.1, hk]; exact app_ne.symm⟩
    · have old : ∀ (j' : Nat), gs[j']? = some m → e = (k, v) ∨ ((e.1 = p ∧ ov = some e.2) ∨ ∃ (i : Nat) (g : List (List UInt8 × V)), gs[i]? = some g ∧ e ∈ g) ∧ e.1 ≠ k := by
        intro j' hm'
        refine .inr ⟨.inr ⟨j', m, hm', he⟩, fun h3 => ?_⟩
        obtain ⟨y, hy⟩ := h.grps.byte hm'
        obtain ⟨q, hq⟩ := h.grps.pre j' y m hy hm' e he
        rw [hq, hk] at h3
        obtain ⟨rfl, _⟩ := app_inj h3
        rcases Nat.lt_or_ge j' i with h4 | h4
        · exact UInt8.lt_irrefl _ (s2 j' _ h4 hy)
        · exact UInt8.lt_irrefl _ (hgt j' _ h4 hy)
      rw [getElem?_put _ _ _ _ hi] at hm
      split at hm
      · exact old _ hm
      · split at hm
        · obtain rfl := Option.some.inj hm; simp at he; exact .inl he
        · exact old _ hm
  · rintro (h1 | ⟨h1 | ⟨j, m, hm, he⟩, h2⟩)
    · exact .inr ⟨i, [(k, v)], by rw [getElem?_put _ _ _ _ hi]; simp, by simp [h1]⟩
    · exact .inl h1
    · by_cases ej : j < i
      · exact .inr ⟨j, m, by rw [getElem?_put _ _ _ _ hi, if_pos ej]; exact hm, he⟩
      · exact .inr ⟨j + 1, m, by rw [getElem?_put _ _ _ _ hi, if_neg (by omega), if_neg (by omega)]; exact hm, he⟩

end Go.Proofs.Ytcgjppacnhmjlaa
end

section
set_option linter.unusedVariables false
set_option linter.unusedSimpArgs false
set_option linter.unusedSectionVars false
set_option linter.unusedVariables false
set_option linter.unusedSimpArgs false
namespace Go.Proofs.Ytcgjppacnhmjlaa
open Go.RowKit

theorem pw_ge {xs : List UInt8} (h : xs.Pairwise (· < ·)) : ∀ (i : Nat) (x : UInt8), xs[i]? = some x → i ≤ x.toNat := by
  intro i
  induction i with
  | zero => intro x _; exact Nat.zero_le _
  | succ i ih =>
    intro x hx
    have hi := (List.getElem?_eq_some_iff.mp hx).1
    have h1 : xs[i]? = some (xs[i]'(by omega)) := List.getElem?_eq_getElem _
    have h2 := ih _ h1
    have h3 : (xs[i]'(by omega)).toNat < x.toNat := pw_get h h1 hx (by omega)
    omega
theorem pw_len {xs : List UInt8} (h : xs.Pairwise (· < ·)) : xs.length ≤ 256 := by
  rcases Nat.lt_or_ge 256 xs.length with h1 | h1
  · have h2 := pw_ge h 256 _ (List.getElem?_eq_getElem h1)
    have h3 := UInt8.toNat_lt (xs[256]'h1)
    omega
  · exact h1
/-- What all keys of a node begin with its prefix begins with. -/
theorem Shaped.pre_of {V : Type} {p xs : List UInt8} {ov : Option V} {gs : List (List (List UInt8 × V))} {l : List (List UInt8 × V)} (h : Shaped p ov xs gs l) {q : List UInt8} (hq : ∀ e ∈ l, q <+: e.1) : q <+: p := by
  cases ov with
  | some v => exact hq (p, v) (h.mem.mpr (.inl ⟨rfl, rfl⟩))
  | none =>
    have h2 := h.two rfl
    obtain ⟨g0, hg0⟩ : ∃ g, gs[0]? = some g := ⟨gs[0], List.getElem?_eq_getElem _⟩
    obtain ⟨g1, hg1⟩ : ∃ g, gs[1]? = some g := ⟨gs[1], List.getElem?_eq_getElem _⟩
    obtain ⟨x0, hx0⟩ := h.grps.byte hg0
    obtain ⟨x1, hx1⟩ := h.grps.byte hg1
    obtain ⟨e0, he0⟩ := List.exists_mem_of_ne_nil _ (h.grps.some' 0 g0 hg0)
    obtain ⟨e1, he1⟩ := List.exists_mem_of_ne_nil _ (h.grps.some' 1 g1 hg1)
    obtain ⟨r0, hr0⟩ := h.grps.pre 0 x0 g0 hx0 hg0 e0 he0
    obtain ⟨r1, hr1⟩ := h.grps.pre 1 x1 g1 hx1 hg1 e1 he1
    have q0 := hq e0 (h.mem.mpr (.inr ⟨0, g0, hg0, he0⟩))
    have q1 := hq e1 (h.mem.mpr (.inr ⟨1, g1, hg1, he1⟩))
    rw [hr0] at q0; rw [hr1] at q1
    rcases Nat.lt_or_ge p.length q.length with hl | hl
    · exfalso
      have hx : x0 = x1 := by
        have a0 := List.prefix_iff_getElem?.mp q0 _ hl
        have a1 := List.prefix_iff_getElem?.mp q1 _ hl
        simp at a0 a1
        rw [a0, a1]
      have := pw_get h.grps.pw hx0 hx1 (by omega)
      rw [hx] at this; exact UInt8.lt_irrefl _ this
    · exact List.prefix_of_prefix_length_le q0 (List.prefix_append _ _) hl

abbrev KV := List UInt8 × Plc

/-- A node's own value. -/
def OwnAt (S : Nat → Prop) (w : World) (vp : Option Addr) : Option Plc → Prop
  | none => vp = none
  | some v => ∃ vb, S vb ∧ vp = some ⟨vb, 0, none⟩ ∧ PlAt w vb v
/-- A node's list of branches. -/
def RowAt (S : Nat → Prop) (w : World) (bv : Value) (cs : List Nat) : Prop :=
  (cs = [] ∧ bv = .slice none 0 0) ∨ ∃ k o cap, S k ∧ bv = .slice (some ⟨k, o, none⟩) cs.length cap ∧ cs.length ≤ cap ∧ cap ≤ maxLen ∧ BrAt w k o cs ∧ cs ≠ []
/-- A node's four fields. -/
structure NodeAt (S : Nat → Prop) (w : World) (b : Nat) (pre : ByteArray) (vp : Option Addr) (bv : Value) (n : Nat) : Prop where
  inS : S b
  blk : w.heap[b]? = some (node pre (.pointer vp) bv n)
  short : pre.size ≤ 64
theorem NodeAt.c0 {S : Nat → Prop} {w : World} {b : Nat} {pre : ByteArray} {vp : Option Addr} {bv : Value} {n : Nat} (h : NodeAt S w b pre vp bv n) : w.cell? ⟨b, 0, none⟩ = some (.string pre) := by simp [World.cell?, h.blk, node]
theorem NodeAt.c1 {S : Nat → Prop} {w : World} {b : Nat} {pre : ByteArray} {vp : Option Addr} {bv : Value} {n : Nat} (h : NodeAt S w b pre vp bv n) : w.cell? ⟨b, 1, none⟩ = some (.pointer vp) := by simp [World.cell?, h.blk, node]
theorem NodeAt.c2 {S : Nat → Prop} {w : World} {b : Nat} {pre : ByteArray} {vp : Option Addr} {bv : Value} {n : Nat} (h : NodeAt S w b pre vp bv n) : w.cell? ⟨b, 2, none⟩ = some bv := by simp [World.cell?, h.blk, node]
theorem NodeAt.c3 {S : Nat → Prop} {w : World} {b : Nat} {pre : ByteArray} {vp : Option Addr} {bv : Value} {n : Nat} (h : NodeAt S w b pre vp bv n) : w.cell? ⟨b, 3, none⟩ = some (.int .i64 n) := by simp [World.cell?, h.blk, node]
/-- The tree at block b, of at most n levels, within the blocks S, is that of the pairs l. -/
def RepN (S : Nat → Prop) : Nat → World → Nat → List KV → Prop
  | 0, _, _, _ => False
  | n + 1, w, b, l => ∃ (pre : ByteArray) (vp : Option Addr) (bv : Value) (ov : Option Plc) (cs : List Nat) (xs : List UInt8) (gs : List (List KV)),
      NodeAt S w b pre vp bv l.length ∧ OwnAt S w vp ov ∧ RowAt S w bv cs ∧ cs.length = gs.length ∧ (∀ (i c : Nat) g, cs[i]? = some c → gs[i]? = some g → RepN S n w c g) ∧ Shaped pre.data.toList ov xs gs l

theorem PlAt.lt {w : World} {b : Nat} {v : Plc} (h : PlAt w b v) : b < w.heap.size := World.block_lt_of_cell? _ _ h.1
theorem PlAt.uniq {w : World} {b : Nat} {v v' : Plc} (h : PlAt w b v) (h' : PlAt w b v') : v = v' := by
  obtain ⟨x, y, n⟩ := v
  obtain ⟨x', y', n'⟩ := v'
  have h0 := h.1.symm.trans h'.1
  have h1 := h.2.1.symm.trans h'.2.1
  have h2 := h.2.2.symm.trans h'.2.2
  simp only [Option.some.injEq, Value.int.injEq, Value.string.injEq, true_and] at h0 h1 h2
  rw [h0, h1, h2]
/-- Within S nothing has turned. -/
def Kept (S : Nat → Prop) (w w' : World) : Prop := ∀ k, S k → w'.heap[k]? = w.heap[k]?
theorem Kept.cell {S : Nat → Prop} {w w' : World} (h : Kept S w w') {b o : Nat} {v : Value} (hb : S b) (hc : w.cell? ⟨b, o, none⟩ = some v) : w'.cell? ⟨b, o, none⟩ = some v :=
  (World.cell?_of_block (w := w) (a := ⟨b, o, none⟩) (h b hb)).trans hc
theorem Kept.pl {S : Nat → Prop} {w w' : World} (h : Kept S w w') {b : Nat} {v : Plc} (hb : S b) (hc : PlAt w b v) : PlAt w' b v := ⟨h.cell hb hc.1, h.cell hb hc.2.1, h.cell hb hc.2.2⟩
theorem RepN.keep {S S' : Nat → Prop} {w w' : World} (hk : Kept S w w') (hS : ∀ k, S k → k < w.heap.size → S' k) : ∀ {n m b : Nat} {l : List KV}, n ≤ m → RepN S n w b l → RepN S' m w' b l
  | 0, _, _, _, _, h => h.elim
  | n + 1, 0, _, _, hnm, _ => by omega
  | n + 1, m + 1, b, l, hnm, ⟨pre, vp, bv, ov, cs, xs, gs, hN, hO, hR, hl, hC, hs⟩ => by
    refine ⟨pre, vp, bv, ov, cs, xs, gs, ⟨hS b hN.inS (World.block_lt_of_cell? _ _ hN.c0), (hk b hN.inS).trans hN.blk, hN.short⟩, ?_, ?_, hl, fun i c g h1 h2 => RepN.keep hk hS (by omega) (hC i c g h1 h2), hs⟩
    · cases ov with
      | none => exact hO
      | some v => obtain ⟨vb, h1, h2, h3⟩ := hO; exact ⟨vb, hS vb h1 h3.lt, h2, hk.pl h1 h3⟩
    · rcases hR with h | ⟨k, o, cap, h1, h2, h3, h4, h5, h6⟩
      · exact .inl h
      · obtain ⟨c0, cr, rfl⟩ := List.exists_cons_of_ne_nil h6
        exact .inr ⟨k, o, cap, hS k h1 (World.block_lt_of_cell? _ _ (h5 0 c0 rfl)), h2, h3, h4, fun i c h => hk.cell h1 (h5 i c h), h6⟩
theorem RepN.fuel {S : Nat → Prop} {w : World} {n m b : Nat} {l : List KV} (h : RepN S n w b l) (hnm : n ≤ m) : RepN S m w b l := h.keep (fun _ _ => rfl) (fun _ h _ => h) hnm
theorem RepN.frame {S : Nat → Prop} {w w' : World} {n b : Nat} {l : List KV} (h : RepN S n w b l) (hk : Kept S w w') : RepN S n w' b l := h.keep hk (fun _ h _ => h) (Nat.le_refl _)
theorem RepN.weaken {S S' : Nat → Prop} {w : World} {n b : Nat} {l : List KV} (h : RepN S n w b l) (hS : ∀ k, S k → k < w.heap.size → S' k) : RepN S' n w b l := h.keep (fun _ _ => rfl) hS (Nat.le_refl _)
theorem RepN.later {S S' : Nat → Prop} {w w' : World} {n m b : Nat} {l : List KV} (h : RepN S n w b l) (hb : Below w.heap.size w w') (hS : ∀ k, S k → k < w.heap.size → S' k) (hnm : n ≤ m) : RepN S' m w' b l := by
  have h1 : RepN (fun k => S k ∧ k < w.heap.size) n w b l := h.weaken (fun k h1 h2 => ⟨h1, h2⟩)
  exact h1.keep (fun k hk => hb.block k hk.2) (fun k hk _ => hS k hk.1 hk.2) hnm
theorem RepN.srt {S : Nat → Prop} {w : World} {n b : Nat} {l : List KV} (h : RepN S n w b l) : Srt l := by
  cases n with
  | zero => exact h.elim
  | succ n => obtain ⟨pre, vp, bv, ov, cs, xs, gs, hN, hO, hR, hl, hC, hs⟩ := h; exact hs.srt
theorem RepN.ne {S : Nat → Prop} {w : World} {n b : Nat} {l : List KV} (h : RepN S n w b l) : l ≠ [] := by
  cases n with
  | zero => exact h.elim
  | succ n =>
    obtain ⟨pre, vp, bv, ov, cs, xs, gs, hN, hO, hR, hl, hC, hs⟩ := h
    intro h0
    subst h0
    cases ov with
    | some v => exact absurd (hs.mem.mpr (.inl ⟨rfl, rfl⟩) : (pre.data.toList, v) ∈ []) (by simp)
    | none =>
      have h2 := hs.two rfl
      have hg : gs[0]? = some gs[0] := List.getElem?_eq_getElem _
      obtain ⟨e, he⟩ := List.exists_mem_of_ne_nil _ (hs.grps.some' 0 _ hg)
      exact absurd (hs.mem.mpr (.inr ⟨0, _, hg, he⟩) : e ∈ []) (by simp)
theorem RepN.lt {S : Nat → Prop} {w : World} {n b : Nat} {l : List KV} (h : RepN S n w b l) : S b ∧ b < w.heap.size := by
  cases n with
  | zero => exact h.elim
  | succ n => obtain ⟨pre, vp, bv, ov, cs, xs, gs, hN, hO, hR, hl, hC, hs⟩ := h; exact ⟨hN.inS, World.block_lt_of_cell? _ _ hN.c0⟩
theorem RepN.size {S : Nat → Prop} {w : World} {n b : Nat} {l : List KV} (h : RepN S n w b l) : w.cell? ⟨b, 3, none⟩ = some (.int .i64 l.length) := by
  cases n with
  | zero => exact h.elim
  | succ n => obtain ⟨pre, vp, bv, ov, cs, xs, gs, hN, hO, hR, hl, hC, hs⟩ := h; exact hN.c3
/-- The byte behind q in the prefix of a tree all of whose keys begin with q and that byte. -/
theorem RepN.byte {S : Nat → Prop} {w : World} {n b : Nat} {l : List KV} (h : RepN S n w b l) {q : List UInt8} {x : UInt8} (hq : ∀ e ∈ l, ∃ r, e.1 = q ++ x :: r) :
    ∃ p : ByteArray, w.cell? ⟨b, 0, none⟩ = some (.string p) ∧ p.size ≤ 1000000 ∧ ∃ h : q.length < p.size, p[q.length] = x := by
  cases n with
  | zero => exact h.elim
  | succ n =>
    obtain ⟨pre, vp, bv, ov, cs, xs, gs, hN, hO, hR, hl, hC, hs⟩ := h
    have hp := hs.pre_of (q := q ++ [x]) (fun e he => by obtain ⟨r, hr⟩ := hq e he; rw [hr]; exact ⟨r, by simp⟩)
    have hlen : q.length < pre.data.toList.length := by have := hp.length_le; simp at this ⊢; omega
    refine ⟨pre, hN.c0, by have := hN.short; omega, by simpa using hlen, ?_⟩
    have := List.prefix_iff_getElem?.mp hp q.length (by simp)
    simp at this
    obtain ⟨h1, h2⟩ := Array.getElem?_eq_some_iff.mp this
    exact h2
theorem repBytes {S : Nat → Prop} {w : World} {n : Nat} {p : List UInt8} {cs : List Nat} {xs : List UInt8} {gs : List (List KV)} (hl : cs.length = gs.length) (hC : ∀ (i c : Nat) g, cs[i]? = some c → gs[i]? = some g → RepN S n w c g) (hG : Grps p xs gs) : BytesAt w p.length cs xs := by
  refine ⟨by rw [hl, hG.len], fun i b x h1 h2 => ?_⟩
  obtain ⟨g, hg⟩ := hG.grp h2
  exact (hC i b g h1 hg).byte (hG.pre i x g h2 hg)
theorem repSizes {S : Nat → Prop} {w : World} {n : Nat} {cs : List Nat} {gs : List (List KV)} (hl : cs.length = gs.length) (hC : ∀ (i c : Nat) g, cs[i]? = some c → gs[i]? = some g → RepN S n w c g) : SzAt w cs (gs.map List.length) := by
  refine ⟨by rw [hl, List.length_map], fun i c m h1 h2 => ?_⟩
  rw [List.getElem?_map, Option.map_eq_some_iff] at h2
  obtain ⟨g, hg, rfl⟩ := h2
  exact (hC i c g h1 hg).size

theorem RepN.blk {S : Nat → Prop} {w : World} {n b : Nat} {l : List KV} (h : RepN S n w b l) : ∃ cells, w.heap[b]? = some (.cells cells 103 (0, 0)) := by
  cases n with
  | zero => exact h.elim
  | succ n => obtain ⟨pre, vp, bv, ov, cs, xs, gs, hN, hO, hR, hl, hC, hs⟩ := h; exact ⟨_, hN.blk⟩
theorem RepN.shape {S : Nat → Prop} {w : World} {n b : Nat} {l : List KV} (h : RepN S n w b l) : w.shape? b = some (103, 4) := by
  cases n with
  | zero => exact h.elim
  | succ n => obtain ⟨pre, vp, bv, ov, cs, xs, gs, hN, hO, hR, hl, hC, hs⟩ := h; simp [World.shape?, hN.blk, node]

end Go.Proofs.Ytcgjppacnhmjlaa
end
