/- Where the branch of a key stands: place, by binary search. -/
import Derived.Test.YtcgjppacnhmjlaaGreatLeafB
import Derived.Test.YtcgjppacnhmjlaaGreatPure
set_option linter.unusedVariables false
set_option linter.unusedSimpArgs false
namespace Go.Proofs.YtcgjppacnhmjlaaGreat
open Go.RowKit

set_option maxHeartbeats 400000 in
theorem placeCmp_any (b B : Nat) (pre : ByteArray) (c : UInt8) (m : Nat) (w : World) (hp : w.cell? ⟨b, 0, none⟩ = some (.string pre)) (hB : w.cell? ⟨B, 0, none⟩ = some (.int .i64 m)) (hm : m < pre.size) (hs : pre.size ≤ 1000000) :
    Calls Tryz.prog 81 #[.pointer (some ⟨b, 0, none⟩), .int .u8 c.toNat, .pointer (some ⟨B, 0, none⟩)] w fun e w' => e = .returned (.int .i64 (cmpByte pre[m] c)) ∧ ∃ n, w' = w.drewN n := by
  go_enter Tryz.func81, Tryz.ntmps81
  go_wp2
  go_quiet ((go_at_call 82; exact Calls.quiet_of_same (compareByte_any _ _ _)))
  go_wp2
  go_ret
  exact ⟨rfl, _, rfl⟩

theorem cmpByte_neg {a b : UInt8} : cmpByte a b < 0 ↔ a < b := by
  unfold cmpByte; constructor
  · intro h; by_cases h1 : a < b
    · exact h1
    · rw [if_neg h1] at h; split at h <;> omega
  · intro h; rw [if_pos h]; decide
theorem cmpByte_zero {a b : UInt8} : cmpByte a b = 0 ↔ a = b := by
  unfold cmpByte; constructor
  · intro h; by_cases h1 : a < b
    · rw [if_pos h1] at h; omega
    · rw [if_neg h1] at h
      by_cases h2 : b < a
      · rw [if_pos h2] at h; omega
      · exact UInt8.le_antisymm (UInt8.not_lt.mp h2) (UInt8.not_lt.mp h1)
  · rintro rfl; simp [UInt8.lt_irrefl]

/-- The branches' prefixes have the bytes xs at place m. -/
def BytesAt (w : World) (m : Nat) (cs : List Nat) (xs : List UInt8) : Prop :=
  cs.length = xs.length ∧ ∀ (i b : Nat) (x : UInt8), cs[i]? = some b → xs[i]? = some x → ∃ p : ByteArray, w.cell? ⟨b, 0, none⟩ = some (.string p) ∧ p.size ≤ 1000000 ∧ ∃ h : m < p.size, p[m] = x

theorem pw_lt {xs : List UInt8} (h : xs.Pairwise (· < ·)) {i j : Nat} {x y : UInt8} (hx : xs[i]? = some x) (hy : xs[j]? = some y) (hij : i < j) : x < y := by
  obtain ⟨h1, rfl⟩ := List.getElem?_eq_some_iff.mp hx
  obtain ⟨h2, rfl⟩ := List.getElem?_eq_some_iff.mp hy
  exact List.pairwise_iff_getElem.mp h i j h1 h2 hij

theorem ret_idx {a b : Nat} {f g : Bool} (h : a = b) (h2 : f = g) : Ending.returned (.tuple #[.int .i64 (a : Int), .bool f]) = .returned (.tuple #[.int .i64 (b : Int), .bool g]) := by rw [h, h2]

set_option maxHeartbeats 1000000 in
theorem search_some (k o cap B m : Nat) (c : UInt8) (cs : List Nat) (xs : List UInt8) (w : World) (hb : BrAt w k o cs) (hx : BytesAt w m cs xs) (hlen : cs.length ≤ 256) (hpw : xs.Pairwise (· < ·)) (hB : w.cell? ⟨B, 0, none⟩ = some (.int .i64 m)) :
    Calls Tryz.prog 80 #[.slice (some ⟨k, o, none⟩) cs.length cap, .int .u8 c.toNat, .func (.func 81) #[] #[.pointer (some ⟨B, 0, none⟩)]] w fun e w' =>
      e = .returned (.tuple #[.int .i64 (posOf c xs), .bool (decide (xs[posOf c xs]? = some c))]) ∧ ∃ n, w' = w.drewN n := by
  have HB : Hid (BrAt w k o cs) := hb
  have HX : Hid (BytesAt w m cs xs) := hx
  have HP : Hid (xs.Pairwise (· < ·)) := hpw
  clear hb hx hpw
  generalize hpos : posOf c xs = q
  have HQ : Hid (posOf c xs = q) := hpos
  clear hpos
  generalize hfnd : decide (xs[q]? = some c) = f
  have HF : Hid (decide (xs[q]? = some c) = f) := hfnd
  clear hfnd
  go_enter Tryz.func80, Tryz.ntmps80
  go_wp2
  go_loopg [9, 10] cs.length (fun gk s9 s10 wr => ∃ lo hi : Nat, s9 = .int .i64 lo ∧ s10 = .int .i64 hi ∧ lo ≤ hi ∧ hi ≤ cs.length ∧ hi - lo ≤ gk ∧ (∃ n, wr = w.drewN n) ∧
    Hid ((∀ (t : Nat) x, t < lo → xs[t]? = some x → x < c) ∧ (∀ (t : Nat) x, hi ≤ t → xs[t]? = some x → ¬ x < c)))
  case atStart =>
    exact ⟨0, cs.length, rfl, rfl, Nat.zero_le _, Nat.le_refl _, by omega, ⟨0, rfl⟩, ⟨fun t x ht => absurd ht (Nat.not_lt_zero _), fun t x h1 h2 => by
      have := (List.getElem?_eq_some_iff.mp h2).1; have := HX.out.1; omega⟩⟩
  case round =>
    obtain ⟨lo, hi, rfl, rfl, hlh, hin, hg, ⟨nd, rfl⟩, I⟩ := hrel
    by_cases hlt : lo < hi
    · have hmid : (lo + hi) / 2 < cs.length := by omega
      obtain ⟨b, hbb⟩ : ∃ b, cs[(lo + hi) / 2]? = some b := ⟨cs[(lo + hi) / 2], List.getElem?_eq_getElem hmid⟩
      obtain ⟨x, hxx⟩ : ∃ x, xs[(lo + hi) / 2]? = some x := ⟨xs[(lo + hi) / 2]'(by rw [← HX.out.1]; exact hmid), List.getElem?_eq_getElem _⟩
      obtain ⟨p, hp, hps, hpm, hpx⟩ := HX.out.2 _ _ _ hbb hxx
      have hcell := HB.out _ _ hbb
      have X1 : Hid (xs[(lo + hi) / 2]? = some x) := hxx
      have X2 : Hid (p[m] = x) := hpx
      clear hbb hxx hpx
      have HD : Hid ((cmpByte p[m] c < 0 → x < c) ∧ (¬ cmpByte p[m] c < 0 → ¬ x < c)) := ⟨fun h => X2.out ▸ cmpByte_neg.mp h, fun h h2 => h (cmpByte_neg.mpr (X2.out ▸ h2))⟩
      by_cases hyx : cmpByte p[m] c < 0
      · have HE : Hid (x < c) := HD.out.1 hyx
        go_wp2_with (go_at_call 81; refine (placeCmp_any b B p c m _ (by simpa using hp) (by simpa using hB) hpm hps).mono ?_; rintro e w' ⟨rfl, nq, rfl⟩)
        go_roundg (hi - ((lo + hi) / 2 + 1))
        case measure => omega
        case rel =>
          have I2 : Hid ((∀ (t : Nat) x, t < (lo + hi) / 2 + 1 → xs[t]? = some x → x < c) ∧ (∀ (t : Nat) x, hi ≤ t → xs[t]? = some x → ¬ x < c)) := by
            refine ⟨fun t y ht hy => ?_, I.out.2⟩
            have hxc : x < c := HE.out
            rcases Nat.lt_or_eq_of_le (Nat.le_of_lt_succ ht) with h | h
            · exact UInt8.lt_trans (pw_lt HP.out hy X1.out h) hxc
            · subst h; rw [X1.out] at hy; exact Option.some.inj hy ▸ hxc
          exact ⟨(lo + hi) / 2 + 1, hi, by rw [show ((lo : Int) + (hi : Int)) / 2 + 1 = (((lo + hi) / 2 + 1 : Nat) : Int) by omega], rfl, by omega, hin, Nat.le_refl _, ⟨_, rfl⟩, I2⟩
      · have HE : Hid (¬ x < c) := HD.out.2 hyx
        go_wp2_with (go_at_call 81; refine (placeCmp_any b B p c m _ (by simpa using hp) (by simpa using hB) hpm hps).mono ?_; rintro e w' ⟨rfl, nq, rfl⟩)
        go_roundg ((lo + hi) / 2 - lo)
        case measure => omega
        case rel =>
          have I2 : Hid ((∀ (t : Nat) x, t < lo → xs[t]? = some x → x < c) ∧ (∀ (t : Nat) x, (lo + hi) / 2 ≤ t → xs[t]? = some x → ¬ x < c)) := by
            refine ⟨I.out.1, fun t y ht hy => ?_⟩
            have hxc : ¬ x < c := HE.out
            rcases Nat.lt_or_eq_of_le ht with h | h
            · have := pw_lt HP.out X1.out hy h
              exact fun h3 => hxc (UInt8.lt_trans this h3)
            · rw [← h, X1.out] at hy; exact Option.some.inj hy ▸ hxc
          exact ⟨lo, (lo + hi) / 2, rfl, by rw [show ((lo : Int) + (hi : Int)) / 2 = (((lo + hi) / 2 : Nat) : Int) by omega], by omega, by omega, Nat.le_refl _, ⟨_, rfl⟩, I2⟩
    · have elo : lo = hi := by omega
      subst elo
      have eq : lo = q := by
        rw [← HQ.out]; exact (posOf_of c xs lo (by rw [← HX.out.1]; exact hin) I.out.1 I.out.2).symm
      by_cases hl : lo < cs.length
      · obtain ⟨b, hbb⟩ : ∃ b, cs[lo]? = some b := ⟨cs[lo], List.getElem?_eq_getElem hl⟩
        obtain ⟨x, hxx⟩ : ∃ x, xs[lo]? = some x := ⟨xs[lo]'(by rw [← HX.out.1]; exact hl), List.getElem?_eq_getElem _⟩
        obtain ⟨p, hp, hps, hpm, hpx⟩ := HX.out.2 _ _ _ hbb hxx
        have hcell := HB.out _ _ hbb
        have X1 : Hid (xs[lo]? = some x) := hxx
        have X2 : Hid (p[m] = x) := hpx
        have EQ : Hid (lo = q) := eq
        clear hbb hxx hpx eq
        go_wp2_with (go_at_call 81; refine (placeCmp_any b B p c m _ (by simpa using hp) (by simpa using hB) hpm hps).mono ?_; rintro e w' ⟨rfl, nq, rfl⟩)
        go_ret2
        refine ⟨?_, _, by first | rfl | exact World.drewN_drewN _ _ _⟩
        exact ret_idx EQ.out (by
          rw [← HF.out, ← EQ.out, X1.out, ← X2.out, Bool.eq_iff_iff]
          simp only [beq_iff_eq, decide_eq_true_eq, Option.some.injEq]
          exact cmpByte_zero)
      · have EQ : Hid (lo = q) := eq
        clear eq
        go_wp2
        go_ret2
        refine ⟨?_, _, rfl⟩
        exact ret_idx EQ.out (by
          rw [← HF.out, ← EQ.out, List.getElem?_eq_none (by rw [← HX.out.1]; omega)]; rfl)

set_option maxHeartbeats 400000 in
theorem search_nil (B : Nat) (c : UInt8) (w : World) :
    Calls Tryz.prog 80 #[.slice none 0 0, .int .u8 c.toNat, .func (.func 81) #[] #[.pointer (some ⟨B, 0, none⟩)]] w fun e w' =>
      e = .returned (.tuple #[.int .i64 0, .bool false]) ∧ w' = w := by
  go_enter Tryz.func80, Tryz.ntmps80
  go_wp2
  refine wp_loop_rounds 1 ?_
  rw [rounds_succ]
  go_wp2
  go_ret2
  exact ⟨rfl, rfl⟩

theorem below_drewN'' {B : Nat} {a w : World} (h : Below B a w) (q : Nat) : Below B a (w.drewN q) := ⟨h.os, h.tape, h.output, h.size, h.block⟩
theorem BytesAt.later {w w' : World} {m : Nat} {cs : List Nat} {xs : List UInt8} (h : BytesAt w m cs xs) (hb : Below w.heap.size w w') : BytesAt w' m cs xs :=
  ⟨h.1, fun i b x h1 h2 => by obtain ⟨p, h3, h4⟩ := h.2 i b x h1 h2; exact ⟨p, cell_later hb h3, h4⟩⟩
theorem BrAt.later {w w' : World} {k o : Nat} {cs : List Nat} (h : BrAt w k o cs) (hb : Below w.heap.size w w') : BrAt w' k o cs := fun i c h1 => cell_later hb (h i c h1)
theorem SzAt.later {w w' : World} {cs ns : List Nat} (h : SzAt w cs ns) (hb : Below w.heap.size w w') : SzAt w' cs ns := ⟨h.1, fun i c n h1 h2 => cell_later hb (h.2 i c n h1 h2)⟩

set_option maxHeartbeats 1000000 in
theorem place_some (b : Nat) (pre key : ByteArray) (k o cap : Nat) (cs : List Nat) (xs : List UInt8) (w : World) (hp : w.cell? ⟨b, 0, none⟩ = some (.string pre)) (hv : w.cell? ⟨b, 2, none⟩ = some (.slice (some ⟨k, o, none⟩) cs.length cap))
    (hb : BrAt w k o cs) (hx : BytesAt w pre.size cs xs) (hlen : cs.length ≤ 256) (hpw : xs.Pairwise (· < ·)) (hks : key.size ≤ 9223372036854775807) (hm : pre.size < key.size) :
    Calls Tryz.prog 67 #[.pointer (some ⟨b, 0, none⟩), .string key] w fun e w' =>
      e = .returned (.tuple #[.int .i64 (posOf key[pre.size] xs), .bool (decide (xs[posOf key[pre.size] xs]? = some key[pre.size]))]) ∧ Below w.heap.size w w' := by
  have HB : Hid (BrAt w k o cs) := hb
  have HX : Hid (BytesAt w pre.size cs xs) := hx
  have HP : Hid (xs.Pairwise (· < ·)) := hpw
  clear hb hx hpw
  have hs : ∀ n, Calls Tryz.prog 80 #[.slice (some ⟨k, o, none⟩) cs.length cap, .int .u8 key[pre.size].toNat, .func (.func 81) #[] #[.pointer (some ⟨w.heap.size, 0, none⟩)]] ((w.alloc (.cells #[.int .i64 pre.size] 3)).drewN n) fun e w' =>
      e = .returned (.tuple #[.int .i64 (posOf key[pre.size] xs), .bool (decide (xs[posOf key[pre.size] xs]? = some key[pre.size]))]) ∧ ∃ m, w' = ((w.alloc (.cells #[.int .i64 pre.size] 3)).drewN n).drewN m := by
    intro n
    refine search_some k o cap w.heap.size pre.size _ cs xs _ ?_ ?_ hlen HP.out ?_
    · exact HB.out.later (below_drewN'' ((Below.refl _ _).alloc (Nat.le_refl _) _) _)
    · exact HX.out.later (below_drewN'' ((Below.refl _ _).alloc (Nat.le_refl _) _) _)
    · simp
  have HS : Hid (∀ n, Calls Tryz.prog 80 #[.slice (some ⟨k, o, none⟩) cs.length cap, .int .u8 key[pre.size].toNat, .func (.func 81) #[] #[.pointer (some ⟨w.heap.size, 0, none⟩)]] ((w.alloc (.cells #[.int .i64 pre.size] 3)).drewN n) fun e w' =>
      e = .returned (.tuple #[.int .i64 (posOf key[pre.size] xs), .bool (decide (xs[posOf key[pre.size] xs]? = some key[pre.size]))]) ∧ ∃ m, w' = ((w.alloc (.cells #[.int .i64 pre.size] 3)).drewN n).drewN m) := hs
  clear hs
  have hv' : ∀ ob, (w.alloc ob).cell? ⟨b, 2, none⟩ = some (.slice (some ⟨k, o, none⟩) cs.length cap) := fun ob => cell_later ((Below.refl _ _).alloc (Nat.le_refl _) _) hv
  generalize posOf key[pre.size] xs = q at *
  generalize decide (xs[q]? = some key[pre.size]) = f at *
  go_enter Tryz.func67, Tryz.ntmps67
  go_wp2
  go_quiet ((go_at_call 80; exact Calls.quiet_of (HS.out _)))
  go_wp2
  go_ret2
  exact ⟨rfl, below_drewN'' (((Below.refl _ _).alloc (Nat.le_refl _) _)) _⟩

end Go.Proofs.YtcgjppacnhmjlaaGreat
