/- What the small functions on texts and bytes answer: sharedLength, HasPrefix, Compare. -/
import Derived.Test.YtcgjppacnhmjlaaGreatRows
import Derived.WalkKit
import Derived.WalkSpells
import Derived.WalkLawsBesides
import Derived.Deep.QuietTactic
import Derived.BigQuiet
import Derived.Lib.Strings
set_option linter.unusedVariables false
set_option linter.unusedSimpArgs false
namespace Go.Proofs.YtcgjppacnhmjlaaGreat
open Go.RowKit

def lcpLen : List UInt8 → List UInt8 → Nat
  | [], _ => 0
  | _, [] => 0
  | a :: r, b :: q => if a = b then lcpLen r q + 1 else 0

theorem lcpLen_le_left (a b : List UInt8) : lcpLen a b ≤ a.length := by
  induction a generalizing b with
  | nil => simp [lcpLen]
  | cons x xs ih => cases b with
    | nil => simp [lcpLen]
    | cons y ys => simp only [lcpLen]; split <;> simp; exact ih ys
theorem lcpLen_le_right (a b : List UInt8) : lcpLen a b ≤ b.length := by
  induction a generalizing b with
  | nil => simp [lcpLen]
  | cons x xs ih => cases b with
    | nil => simp [lcpLen]
    | cons y ys => simp only [lcpLen]; split <;> simp; exact ih ys
theorem lcpLen_of (a b : List UInt8) (k : Nat) (ha : k ≤ a.length) (hb : k ≤ b.length) (ht : a.take k = b.take k)
    (hs : k = a.length ∨ k = b.length ∨ ∃ (h1 : k < a.length) (h2 : k < b.length), a[k] ≠ b[k]) : lcpLen a b = k := by
  induction a generalizing b k with
  | nil => simp at ha; simp [lcpLen, ha]
  | cons x xs ih => cases b with
    | nil => simp at hb; simp [lcpLen, hb]
    | cons y ys =>
      cases k with
      | zero =>
        rcases hs with h | h | ⟨_, _, h⟩
        · simp at h
        · simp at h
        · simp at h; simp [lcpLen, h]
      | succ k =>
        simp at ha hb ht
        obtain ⟨rfl, ht⟩ := ht
        simp only [lcpLen, if_true]
        have := ih ys k ha hb ht (by
          rcases hs with h | h | ⟨h1, h2, h⟩
          · left; simpa using h
          · right; left; simpa using h
          · right; right; simp at h1 h2 h; exact ⟨h1, h2, h⟩)
        omega
theorem take_snoc (s : ByteArray) (k : Nat) (h : k < s.size) : s.data.toList.take (k + 1) = s.data.toList.take k ++ [s[k]] := by
  rw [List.take_succ_eq_append_getElem (by simpa using h)]; rfl

theorem lcpLen_ba (a b : ByteArray) (k : Nat) (ha : k ≤ a.size) (hb : k ≤ b.size) (ht : a.data.toList.take k = b.data.toList.take k)
    (hs : k = a.size ∨ k = b.size ∨ ∃ (h1 : k < a.size) (h2 : k < b.size), a[k] ≠ b[k]) : lcpLen a.data.toList b.data.toList = k :=
  lcpLen_of _ _ k (by simpa using ha) (by simpa using hb) ht (by
    rcases hs with h | h | ⟨h1, h2, h⟩
    · exact .inl (by simpa using h)
    · exact .inr (.inl (by simpa using h))
    · exact .inr (.inr ⟨by simpa using h1, by simpa using h2, h⟩))
theorem byte_ext {a b : UInt8} (h : (a.toNat : Int) = (b.toNat : Int)) : a = b := UInt8.toNat_inj.mp (by omega)
theorem ret_int {k : IntKind} {a b : Int} (h : a = b) : Ending.returned (.int k a) = .returned (.int k b) := by rw [h]

set_option maxHeartbeats 400000 in
theorem sharedLength_any (a b : ByteArray) (w : World) (ha : a.size ≤ maxLen) (hb : b.size ≤ maxLen) :
    Calls Tryz.prog 76 #[.string a, .string b] w fun e w' => e = .returned (.int .i64 (lcpLen a.data.toList b.data.toList)) ∧ ∃ n, w' = w.drewN n := by
  unfold maxLen at ha hb
  go_enter Tryz.func76, Tryz.ntmps76
  go_wp2
  go_loopw [5] (fun n wr => ∃ k : Nat, k ≤ a.size ∧ k ≤ b.size ∧ a.data.toList.take k = b.data.toList.take k ∧ n = .int .i64 k ∧ ∃ n, wr = w.drewN n) (fun n _ => a.size - (intOf n).toNat)
  case atStart => exact ⟨0, Nat.zero_le _, Nat.zero_le _, rfl, rfl, 0, rfl⟩
  case round =>
    obtain ⟨k, hka, hkb, ht, rfl, n0, rfl⟩ := hrel
    have HT : Hid (a.data.toList.take k = b.data.toList.take k) := ht
    clear ht
    have take_of : ∀ (h1 : k < a.size) (h2 : k < b.size), a[k] = b[k] → a.data.toList.take (k + 1) = b.data.toList.take (k + 1) := by
      intro h1 h2 h3
      rw [take_snoc a k h1, take_snoc b k h2, HT.out, h3]
    have TK : Hid (∀ (h1 : k < a.size) (h2 : k < b.size), a[k] = b[k] → a.data.toList.take (k + 1) = b.data.toList.take (k + 1)) := take_of
    clear take_of
    have fin : ∀ (hs : k = a.size ∨ k = b.size ∨ ∃ (h1 : k < a.size) (h2 : k < b.size), a[k] ≠ b[k]), (k : Int) = (lcpLen a.data.toList b.data.toList : Nat) := by
      intro hs
      rw [lcpLen_ba a b k hka hkb HT.out hs]
    have FIN : Hid (∀ (hs : k = a.size ∨ k = b.size ∨ ∃ (h1 : k < a.size) (h2 : k < b.size), a[k] ≠ b[k]), (k : Int) = (lcpLen a.data.toList b.data.toList : Nat)) := fin
    clear fin
    by_cases h1 : k < a.size
    · by_cases h2 : k < b.size
      · by_cases h3 : (a[k].toNat : Int) = (b[k].toNat : Int)
        · go_wp2
          go_quiet (fail)
          go_wp2
          exact ⟨⟨k + 1, by omega, by omega, TK.out h1 h2 (byte_ext h3), by go_num, _, rfl⟩, by simp [intOf]; omega⟩
        · go_wp2
          go_quiet (fail)
          go_wp2
          go_ret
          exact ⟨ret_int (FIN.out (.inr (.inr ⟨h1, h2, fun h => h3 (by rw [h])⟩))), _, World.drewN_drewN _ _ _⟩
      · go_wp2
        go_quiet (fail)
        go_wp2
        go_ret
        exact ⟨ret_int (FIN.out (.inr (.inl (by omega)))), _, World.drewN_drewN _ _ _⟩
    · go_wp2
      go_quiet (fail)
      go_wp2
      go_ret
      exact ⟨ret_int (FIN.out (.inl (by omega))), _, World.drewN_drewN _ _ _⟩



theorem ret_bool {a b : Bool} (h : a = b) : Ending.returned (.bool a) = .returned (.bool b) := by rw [h]
theorem hasPrefix_short (s p : ByteArray) (h : ¬ p.size ≤ s.size) : false = Lib.hasPrefix s.data.toList p.data.toList := by
  rw [← Lib.hasPrefix_of_take, ← Lib.size_eq, ← Lib.size_eq]; simp [h]
theorem hasPrefix_long (s p : ByteArray) (h : p.size ≤ s.size) : ((s.extract 0 p.size).toList == p.toList) = Lib.hasPrefix s.data.toList p.data.toList := by
  rw [← Lib.hasPrefix_of_take, ← Lib.size_eq, ← Lib.size_eq, Lib.extract_toList, Lib.toList_data]; simp [h]
set_option maxHeartbeats 400000 in
theorem liteHasPrefix_any (s p : ByteArray) (w : World) (hs : s.size ≤ maxLen) (hp : p.size ≤ maxLen) :
    Calls Tryz.prog 63 #[.string s, .string p] w fun e w' => e = .returned (.bool (Lib.hasPrefix s.data.toList p.data.toList)) ∧ w' = w := by
  unfold maxLen at hs hp
  by_cases h : p.size ≤ s.size
  · go_enter Tryz.func63, Tryz.ntmps63
    go_wp2
    go_ret
    exact ⟨ret_bool (hasPrefix_long s p h), rfl⟩
  · go_enter Tryz.func63, Tryz.ntmps63
    go_wp2
    go_ret
    exact ⟨ret_bool (hasPrefix_short s p h), rfl⟩
set_option maxHeartbeats 400000 in
theorem hasPrefix_any (s p : ByteArray) (w : World) (hs : s.size ≤ maxLen) (hp : p.size ≤ maxLen) :
    Calls Tryz.prog 45 #[.string s, .string p] w fun e w' => e = .returned (.bool (Lib.hasPrefix s.data.toList p.data.toList)) ∧ w' = w := by
  go_enter Tryz.func45, Tryz.ntmps45
  go_wp2_with (go_at_call 63; refine (liteHasPrefix_any _ _ _ hs hp).mono ?_; rintro e w' ⟨rfl, rfl⟩)
  go_ret
  exact ⟨rfl, rfl⟩
def cmpByte (a b : UInt8) : Int := if a < b then -1 else if b < a then 1 else 0
theorem cmpByte_lt {a b : UInt8} (h : a.toNat < b.toNat) : cmpByte a b = -1 := if_pos h
theorem cmpByte_gt {a b : UInt8} (h : b.toNat < a.toNat) : cmpByte a b = 1 := by
  have h' : b < a := h
  have h2 : ¬ a < b := fun h3 => by have : a.toNat < b.toNat := h3; omega
  rw [cmpByte, if_neg h2, if_pos h']
theorem cmpByte_eq {a b : UInt8} (h : a.toNat = b.toNat) : cmpByte a b = 0 := by
  have h1 : ¬ b < a := fun h3 => by have : b.toNat < a.toNat := h3; omega
  have h2 : ¬ a < b := fun h3 => by have : a.toNat < b.toNat := h3; omega
  rw [cmpByte, if_neg h2, if_neg h1]
set_option maxHeartbeats 400000 in
theorem compareByte_any (a b : UInt8) (w : World) :
    Calls Tryz.prog 82 #[.int .u8 a.toNat, .int .u8 b.toNat] w fun e w' => e = .returned (.int .i64 (cmpByte a b)) ∧ w' = w := by
  rcases Nat.lt_trichotomy a.toNat b.toNat with h | h | h
  · rw [cmpByte_lt h]
    go_enter Tryz.func82, Tryz.ntmps82
    go_wp2
    go_ret
    exact ⟨rfl, rfl⟩
  · rw [cmpByte_eq h, ← h]
    go_enter Tryz.func82, Tryz.ntmps82
    go_wp2
    go_ret
    exact ⟨rfl, rfl⟩
  · rw [cmpByte_gt h]
    have h' : ¬ a.toNat < b.toNat := by omega
    go_enter Tryz.func82, Tryz.ntmps82
    go_wp2
    go_ret
    exact ⟨rfl, rfl⟩

end Go.Proofs.YtcgjppacnhmjlaaGreat
