/- The document's own index: the place of a key, and Get. -/
import Derived.Test.YtcgjppacnhmjlaaGreatRefA
set_option linter.unusedVariables false
set_option linter.unusedSimpArgs false
namespace Go.Proofs.YtcgjppacnhmjlaaGreat
open Go.RowKit

theorem PairsAt.drew {w : World} {g : Nat} {l : List KV} (h : PairsAt w g l) (n : Nat) : PairsAt (w.drewN n) g l := h
def foundB (k : List UInt8) (l : List KV) : Bool := (lk k l).isSome
theorem rpos_spec (k : List UInt8) : ∀ (l : List KV), Srt l → rpos k l ≤ l.length ∧ (∀ (t : Nat) e, t < rpos k l → l[t]? = some e → klt e.1 k) ∧ (∀ (t : Nat) e, rpos k l ≤ t → l[t]? = some e → ¬ klt e.1 k)
  | [], _ => ⟨Nat.le_refl _, fun t e h => absurd h (Nat.not_lt_zero _), fun t e _ h => by simp at h⟩
  | a :: l, hs => by
    have hs2 := (List.pairwise_cons.mp hs)
    obtain ⟨h1, h2, h3⟩ := rpos_spec k l hs2.2
    by_cases ha : klt a.1 k
    · have e : rpos k (a :: l) = rpos k l + 1 := List.countP_cons_of_pos ha
      rw [e]
      refine ⟨by simp; omega, fun t x ht hx => ?_, fun t x ht hx => ?_⟩
      · cases t with
        | zero => simp at hx; exact hx ▸ ha
        | succ t => exact h2 t x (by omega) (by simpa using hx)
      · cases t with
        | zero => omega
        | succ t => exact h3 t x (by omega) (by simpa using hx)
    · have h0 : ∀ e ∈ l, ¬ klt e.1 k := fun e he h => ha (klt_trans (hs2.1 e he) h)
      have e0 : rpos k l = 0 := List.countP_eq_zero.mpr h0
      have e : rpos k (a :: l) = rpos k l := List.countP_cons_of_neg ha
      rw [e, e0]
      refine ⟨Nat.zero_le _, fun t x ht => absurd ht (Nat.not_lt_zero _), fun t x _ hx => ?_⟩
      cases t with
      | zero => simp at hx; exact hx ▸ ha
      | succ t => exact h0 x (List.mem_of_getElem? (by simpa using hx))
/-- At a key's place stands the key, or it is nowhere. -/
theorem at_place {k : List UInt8} {l : List KV} (hs : Srt l) {e : KV} (he : l[rpos k l]? = some e) (hne : e.1 ≠ k) : lk k l = none := by
  obtain ⟨h1, h2, h3⟩ := rpos_spec k l hs
  refine lk_none fun x hx hk => ?_
  obtain ⟨t, ht⟩ := List.getElem?_of_mem hx
  rcases Nat.lt_trichotomy t (rpos k l) with h | h | h
  · have := h2 t x h ht; rw [hk] at this; exact klt_irrefl _ this
  · rw [h, he] at ht; exact hne (by rw [Option.some.inj ht]; exact hk)
  · have h4 := srt_get hs he ht h
    rw [hk] at h4
    exact h3 _ e (Nat.le_refl _) he h4
theorem past_place {k : List UInt8} {l : List KV} (hs : Srt l) (hq : ¬ rpos k l < l.length) : lk k l = none := by
  obtain ⟨h1, h2, h3⟩ := rpos_spec k l hs
  refine lk_none fun x hx hk => ?_
  obtain ⟨t, ht⟩ := List.getElem?_of_mem hx
  have := h2 t x (by have := (List.getElem?_eq_some_iff.mp ht).1; omega) ht
  rw [hk] at this; exact klt_irrefl _ this
theorem found_end {k : List UInt8} {l : List KV} (hs : Srt l) (hq : ¬ rpos k l < l.length) : false = foundB k l := by
  unfold foundB; rw [past_place hs hq]; rfl
theorem found_text {key : ByteArray} {l : List KV} (hs : Srt l) {lo : Nat} (eq : rpos key.data.toList l = lo) {e : KV} (he : l[lo]? = some e) : ((keyOf e).toList == key.toList) = foundB key.data.toList l := by
  rw [Lib.toList_data, Lib.toList_data, keyOf_list]
  unfold foundB
  by_cases h : e.1 = key.data.toList
  · have : lk key.data.toList l = some e.2 := lk_some hs (h ▸ List.mem_of_getElem? he)
    rw [this, h]; simp
  · rw [at_place hs (eq ▸ he) h]; simpa using h
/-- What is at the place of a key that is there. -/
theorem found_pair {k : List UInt8} {l : List KV} (hs : Srt l) {v : Int} (h : lk k l = some v) : l[rpos k l]? = some (k, v) := by
  have hq : rpos k l < l.length := by
    rcases Nat.lt_or_ge (rpos k l) l.length with h1 | h1
    · exact h1
    · rw [past_place hs (by omega)] at h; cases h
  obtain ⟨e, he⟩ : ∃ e, l[rpos k l]? = some e := ⟨_, List.getElem?_eq_getElem hq⟩
  by_cases hk : e.1 = k
  · have := lk_some hs (show (k, e.2) ∈ l from hk ▸ List.mem_of_getElem? he)
    rw [h] at this
    rw [he, ← hk, Option.some.inj this]
  · rw [at_place hs he hk] at h; cases h
def Keys64 (l : List KV) : Prop := ∀ e ∈ l, e.1.length ≤ 64

set_option maxRecDepth 100000 in
set_option maxHeartbeats 2000000 in
theorem rplace_some (r g cap : Nat) (l : List KV) (key : ByteArray) (w : World) (hr : w.cell? ⟨r, 0, none⟩ = some (.slice (some ⟨g, 0, none⟩) l.length cap)) (hp : PairsAt w g l) (hs : Srt l) (h64 : Keys64 l) (hk : key.size ≤ 9223372036854775807) (hl : l.length ≤ 100000) :
    Calls Tryz.prog 41 #[.pointer (some ⟨r, 0, none⟩), .string key] w fun e w' => e = .returned (.tuple #[.int .i64 (rpos key.data.toList l), .bool (foundB key.data.toList l)]) ∧ ∃ n, w' = w.drewN n := by
  have HP : Hid (PairsAt w g l) := hp
  have HS : Hid (Srt l) := hs
  have H64 : Hid (Keys64 l) := h64
  clear hp hs h64
  go_enter Tryz.func41, Tryz.ntmps41
  go_wp2
  go_loopg [6, 7] l.length (fun gk s6 s7 wr => ∃ lo hi : Nat, s6 = .int .i64 lo ∧ s7 = .int .i64 hi ∧ lo ≤ hi ∧ hi ≤ l.length ∧ hi - lo ≤ gk ∧ (∃ n, wr = w.drewN n) ∧
    Hid ((∀ (t : Nat) e, t < lo → l[t]? = some e → klt e.1 key.data.toList) ∧ (∀ (t : Nat) e, hi ≤ t → l[t]? = some e → ¬ klt e.1 key.data.toList)))
  case atStart =>
    exact ⟨0, l.length, rfl, rfl, Nat.zero_le _, Nat.le_refl _, by omega, ⟨0, rfl⟩, ⟨fun t x ht => absurd ht (Nat.not_lt_zero _), fun t x h1 h2 => by
      have := (List.getElem?_eq_some_iff.mp h2).1; omega⟩⟩
  case round =>
    obtain ⟨lo, hi, rfl, rfl, hlh, hin, hg, ⟨nd, rfl⟩, I⟩ := hrel
    by_cases hlt : lo < hi
    · have hmid : (lo + hi) / 2 < l.length := by omega
      obtain ⟨e, he⟩ : ∃ e, l[(lo + hi) / 2]? = some e := ⟨l[(lo + hi) / 2], List.getElem?_eq_getElem hmid⟩
      have hcell := (HP.out _ _ he).1
      have X1 : Hid (l[(lo + hi) / 2]? = some e) := he
      have hsz : (keyOf e).size ≤ 9223372036854775807 := by have := H64.out e (List.mem_of_getElem? he); rw [keyOf_size]; omega
      have HLs : Hid (∀ n, Calls Tryz.prog 46 #[.string (keyOf e), .string key] (w.drewN n) fun e' w' => e' = .returned (.bool (Op.bytesLess e.1 key.data.toList)) ∧ ∃ n, w' = w.drewN n) := fun n => (less_any (keyOf e) key (w.drewN n) hsz hk).mono fun e' w' hh => by
        obtain ⟨h1, m, h2⟩ := hh
        rw [keyOf_list] at h1
        exact ⟨h1, _, h2.trans (World.drewN_drewN _ _ _)⟩
      clear he
      have HD : Hid ((Op.bytesLess e.1 key.data.toList = true → klt e.1 key.data.toList) ∧ (Op.bytesLess e.1 key.data.toList = false → ¬ klt e.1 key.data.toList)) := ⟨fun h => h, fun h h2 => by unfold klt at h2; rw [h] at h2; cases h2⟩
      generalize Op.bytesLess e.1 key.data.toList = bl at HLs HD
      cases bl with
      | true =>
        have HE : Hid (klt e.1 key.data.toList) := HD.out.1 rfl
        clear HD
        go_wp2_with (go_at_call 46; refine (HLs.out _).mono ?_; rintro e' w' ⟨rfl, nq, rfl⟩)
        go_roundg (hi - ((lo + hi) / 2 + 1))
        case measure => omega
        case rel =>
          have I2 : Hid ((∀ (t : Nat) e, t < (lo + hi) / 2 + 1 → l[t]? = some e → klt e.1 key.data.toList) ∧ (∀ (t : Nat) e, hi ≤ t → l[t]? = some e → ¬ klt e.1 key.data.toList)) := by
            refine ⟨fun t y ht hy => ?_, I.out.2⟩
            rcases Nat.lt_or_eq_of_le (Nat.le_of_lt_succ ht) with h | h
            · exact klt_trans (srt_get HS.out hy X1.out h) HE.out
            · subst h; rw [X1.out] at hy; exact Option.some.inj hy ▸ HE.out
          exact ⟨(lo + hi) / 2 + 1, hi, by rw [show ((lo : Int) + (hi : Int)) / 2 + 1 = (((lo + hi) / 2 + 1 : Nat) : Int) by omega], rfl, by omega, hin, Nat.le_refl _, ⟨_, rfl⟩, I2⟩
      | false =>
        have HE : Hid (¬ klt e.1 key.data.toList) := HD.out.2 rfl
        clear HD
        go_wp2_with (go_at_call 46; refine (HLs.out _).mono ?_; rintro e' w' ⟨rfl, nq, rfl⟩)
        go_roundg ((lo + hi) / 2 - lo)
        case measure => omega
        case rel =>
          have I2 : Hid ((∀ (t : Nat) e, t < lo → l[t]? = some e → klt e.1 key.data.toList) ∧ (∀ (t : Nat) e, (lo + hi) / 2 ≤ t → l[t]? = some e → ¬ klt e.1 key.data.toList)) := by
            refine ⟨I.out.1, fun t y ht hy => ?_⟩
            rcases Nat.lt_or_eq_of_le ht with h | h
            · have := srt_get HS.out X1.out hy h
              exact fun h3 => HE.out (klt_trans this h3)
            · rw [← h, X1.out] at hy; exact Option.some.inj hy ▸ HE.out
          exact ⟨lo, (lo + hi) / 2, rfl, by rw [show ((lo : Int) + (hi : Int)) / 2 = (((lo + hi) / 2 : Nat) : Int) by omega], by omega, by omega, Nat.le_refl _, ⟨_, rfl⟩, I2⟩
    · have elo : lo = hi := by omega
      subst elo
      have eq : rpos key.data.toList l = lo := rpos_of _ _ _ hin I.out.1 I.out.2
      by_cases hl : lo < l.length
      · obtain ⟨e, he⟩ : ∃ e, l[lo]? = some e := ⟨l[lo], List.getElem?_eq_getElem hl⟩
        have hcell := (HP.out _ _ he).1
        have HF : Hid (((keyOf e).toList == key.toList) = foundB key.data.toList l) := found_text HS.out eq he
        have EQ : Hid (rpos key.data.toList l = lo) := eq
        clear he eq
        go_wp2
        go_quiet (fail)
        go_wp2
        go_ret2
        refine ⟨?_, _, by first | rfl | exact World.drewN_drewN _ _ _⟩
        exact ret_idx EQ.out.symm HF.out
      · have HF : Hid (false = foundB key.data.toList l) := found_end HS.out (by rw [eq]; exact hl)
        have EQ : Hid (rpos key.data.toList l = lo) := eq
        clear eq
        go_wp2
        go_quiet (fail)
        go_wp2
        go_ret2
        refine ⟨?_, _, by first | rfl | exact World.drewN_drewN _ _ _⟩
        exact ret_idx EQ.out.symm HF.out

set_option maxHeartbeats 400000 in
theorem rplace_nil (r : Nat) (ao : Option Addr) (c : Nat) (key : ByteArray) (w : World) (hr : w.cell? ⟨r, 0, none⟩ = some (.slice ao 0 c)) :
    Calls Tryz.prog 41 #[.pointer (some ⟨r, 0, none⟩), .string key] w fun e w' => e = .returned (.tuple #[.int .i64 0, .bool false]) ∧ ∃ n, w' = w.drewN n := by
  go_enter Tryz.func41, Tryz.ntmps41
  go_wp2
  refine wp_loop_rounds 1 ?_
  rw [rounds_succ]
  go_wp2
  go_quiet (fail)
  go_wp2
  go_ret2
  exact ⟨rfl, _, rfl⟩

/-- A list of pairs, as a slice's row of its own. -/
def flat (l : List KV) : List Value := l.flatMap fun e => [.string (keyOf e), .int .i64 e.2]
theorem flat_len (l : List KV) : (flat l).length = l.length * 2 := by
  induction l with
  | nil => rfl
  | cons e l ih => simp [flat] at ih ⊢; omega
theorem flat_get : ∀ (l : List KV) (i : Nat) (e : KV), l[i]? = some e → (flat l)[i * 2]? = some (.string (keyOf e)) ∧ (flat l)[i * 2 + 1]? = some (.int .i64 e.2)
  | [], i, e, h => by simp at h
  | a :: l, 0, e, h => by simp at h; subst h; simp [flat]
  | a :: l, i + 1, e, h => by
    have := flat_get l i e (by simpa using h)
    have e1 : (i + 1) * 2 = i * 2 + 1 + 1 := by omega
    rw [e1]
    simpa [flat] using this
/-- The document's index at block r, its slice, its pairs. -/
structure RefAt (w : World) (r : Nat) (av : Value) (l : List KV) : Prop where
  blk : w.heap[r]? = some (.cells #[av] 36 (0, 0))
  row : w.ownsRow 0 46 2 av l.length (flat l)
  out : av.ownBlock ≠ some r
  srt : Srt l
  short : Keys64 l
  few : l.length ≤ 3000
theorem RefAt.cell {w : World} {r : Nat} {av : Value} {l : List KV} (h : RefAt w r av l) : w.cell? ⟨r, 0, none⟩ = some av := by simp [World.cell?, h.blk]
theorem RefAt.free {w : World} {r : Nat} {av : Value} {l : List KV} (h : RefAt w r av l) : w.frozen? ⟨r, 0, none⟩ = false := by simp [World.frozen?, h.blk]
theorem ownsRow_pairs {w : World} {g n cap base : Nat} {l : List KV} (h : w.ownsRow base 46 2 (.slice (some ⟨g, 0, none⟩) n cap) l.length (flat l)) : PairsAt w g l := by
  intro i e he
  obtain ⟨h0, h1 | ⟨g', cap', cur, h1, h2, h3, h4, h5, h6, h7⟩⟩ := h
  · cases h1.1
  · cases h1
    have hi := (List.getElem?_eq_some_iff.mp he).1
    obtain ⟨a1, a2⟩ := flat_get l i e he
    rw [← h7, List.getElem?_take, if_pos (by omega)] at a1 a2
    simp only [World.cell?, h3]
    rw [← Array.getElem?_toList, ← Array.getElem?_toList, a1, a2]
    exact ⟨rfl, rfl⟩
theorem RefAt.cases {w : World} {r : Nat} {av : Value} {l : List KV} (h : RefAt w r av l) : (l = [] ∧ av = .slice none 0 0) ∨ ∃ g cap, av = .slice (some ⟨g, 0, none⟩) l.length cap ∧ PairsAt w g l ∧ l.length ≤ cap := by
  have h' := h.row
  obtain ⟨h0, h1 | ⟨g', cap', cur, h1, h2, h3, h4, h5, h6, h7⟩⟩ := h'
  · exact .inl ⟨List.length_eq_zero_iff.mp h1.2, h1.1⟩
  · refine .inr ⟨g', cap', h1, ?_, h4⟩
    have := h.row
    rw [h1] at this
    exact ownsRow_pairs this
theorem rplace_any {w : World} {r : Nat} {av : Value} {l : List KV} (h : RefAt w r av l) (key : ByteArray) (hk : key.size ≤ 9223372036854775807) :
    Calls Tryz.prog 41 #[.pointer (some ⟨r, 0, none⟩), .string key] w fun e w' => e = .returned (.tuple #[.int .i64 (rpos key.data.toList l), .bool (foundB key.data.toList l)]) ∧ ∃ n, w' = w.drewN n := by
  rcases h.cases with ⟨rfl, rfl⟩ | ⟨g, cap, rfl, hp, hc⟩
  · exact rplace_nil r none 0 key w h.cell
  · exact rplace_some r g cap l key w h.cell hp h.srt h.short hk (by have := h.few; omega)

set_option maxRecDepth 100000 in
set_option maxHeartbeats 400000 in
theorem rget_any {w : World} {r : Nat} {av : Value} {l : List KV} (h : RefAt w r av l) (key : ByteArray) (hk : key.size ≤ 9223372036854775807) :
    Calls Tryz.prog 25 #[.pointer (some ⟨r, 0, none⟩), .string key] w fun e w' => e = .returned (.tuple #[.int .i64 (valOr (lk key.data.toList l)), .bool (lk key.data.toList l).isSome]) ∧ ∃ n, w' = w.drewN n := by
  have HPl : Hid (Calls Tryz.prog 41 #[.pointer (some ⟨r, 0, none⟩), .string key] w fun e w' => e = .returned (.tuple #[.int .i64 (rpos key.data.toList l), .bool (foundB key.data.toList l)]) ∧ ∃ n, w' = w.drewN n) := rplace_any h key hk
  have hf := h.few
  cases hu : lk key.data.toList l with
  | none =>
    have ef : foundB key.data.toList l = false := by unfold foundB; rw [hu]; rfl
    rw [ef] at HPl
    clear h hu ef
    go_enter Tryz.func25, Tryz.ntmps25
    go_wp2_with (go_at_call 41; refine HPl.out.mono ?_; rintro e w' ⟨rfl, n, rfl⟩)
    go_ret2
    exact ⟨rfl, _, rfl⟩
  | some u =>
    have ef : foundB key.data.toList l = true := by unfold foundB; rw [hu]; rfl
    rw [ef] at HPl
    have hpair := found_pair h.srt hu
    have hlt := (List.getElem?_eq_some_iff.mp hpair).1
    rcases h.cases with ⟨rfl, rfl⟩ | ⟨g, cap, rfl, hp, hc⟩
    · simp at hlt
    · have hcell := (hp _ _ hpair).2
      have hr := h.cell
      clear hp hpair h hu ef
      generalize rpos key.data.toList l = q at *
      go_enter Tryz.func25, Tryz.ntmps25
      go_wp2_with (go_at_call 41; refine HPl.out.mono ?_; rintro e w' ⟨rfl, n, rfl⟩)
      go_ret2
      exact ⟨rfl, _, rfl⟩

end Go.Proofs.YtcgjppacnhmjlaaGreat
