/- What the small functions of reading answer. -/
import Derived.Test.YtcgjppacnhmjlaaTupP
import Derived.Test.YtcgjppacnhmjlaaShelf
import Derived.Laws.Bits64b
set_option linter.unusedVariables false
set_option linter.unusedSimpArgs false
namespace Go.Proofs.Ytcgjppacnhmjlaa
open Go.RowKit Go.Shelf

set_option maxHeartbeats 1000000 in
theorem width_any (k : Int) (w : World) : Calls Try.prog 141 #[.int .i64 k] w fun e w' => e = .returned (.int .i64 (widthOf k)) ∧ w' = w := by
  go_enter Try.func141, Try.ntmps141
  go_wp2
  all_goals go_ret
  all_goals refine ⟨?_, rfl⟩
  all_goals simp only [beq_iff_eq, beq_eq_false_iff_ne, ne_eq] at *
  all_goals simp [widthOf, *]
theorem signed_any (k : Int) (w : World) (h1 : 1 ≤ k) (h8 : k ≤ 8) : Calls Try.prog 122 #[.int .i64 k] w fun e w' => e = .returned (.bool (decide (5 ≤ k))) ∧ w' = w := by
  by_cases h : 5 ≤ k
  · rw [decide_eq_true h]
    go_enter Try.func122, Try.ntmps122
    go_wp2
    go_ret
    exact ⟨rfl, rfl⟩
  · rw [decide_eq_false h]
    go_enter Try.func122, Try.ntmps122
    go_wp2
    go_ret
    exact ⟨rfl, rfl⟩
theorem half_any (k : Int) (w : World) : Calls Try.prog 142 #[.int .i64 k] w fun e w' => e = .returned (.int .u64 (2 ^ (8 * widthOf k - 1) : Nat)) ∧ w' = w := by
  have HW := width_any k
  rcases widthOf_cases k with h | h | h | h
  all_goals
    rw [h] at HW ⊢
    clear h
    go_enter Try.func142, Try.ntmps142
    go_wp2_with ((go_at_call 141; refine (HW _).mono ?_; rintro e w1 ⟨rfl, rfl⟩))
    go_ret
    exact ⟨rfl, rfl⟩
theorem lowered_any (k : Int) (n : Nat) (w : World) (hn : n < 256 ^ widthOf k) : Calls Try.prog 123 #[.int .i64 k, .int .u64 n] w fun e w' => e = .returned (.int .i64 ((n : Int) - 2 ^ (8 * widthOf k - 1))) ∧ w' = w := by
  have HH := half_any k
  rcases widthOf_cases k with h | h | h | h
  all_goals
    rw [h] at HH hn ⊢
    clear h
    have HN : Hid (n < _) := hn
    go_enter Try.func123, Try.ntmps123
    go_wp2_with ((go_at_call 142; refine (HH _).mono ?_; rintro e w1 ⟨rfl, rfl⟩))
    go_ret
    refine ⟨?_, rfl⟩
    have hn' := HN.out
    refine congrArg (fun z => Ending.returned (Value.int .i64 z)) ?_
    rw [IntKind.wrap_u64]
    unfold wrap64
    omega
theorem cutZ_index : ∀ t : Bs, (Lib.indexByte t 0 = -1 ∧ cutZ t = (t, [])) ∨ ∃ i : Nat, i < t.length ∧ Lib.indexByte t 0 = i ∧ cutZ t = (t.take i, t.drop (i + 1))
  | [] => .inl ⟨rfl, rfl⟩
  | b :: t => by
    by_cases h : b = 0
    · exact .inr ⟨0, by simp, by simp [Lib.indexByte, h], by simp [cutZ, h]⟩
    · rcases cutZ_index t with ⟨h1, h2⟩ | ⟨i, h0, h1, h2⟩
      · exact .inl ⟨by simp [Lib.indexByte, h, h1], by simp [cutZ, h, h2]⟩
      · refine .inr ⟨i + 1, by simp; omega, ?_, by simp [cutZ, h, h2]⟩
        have : ¬ ((i : Int) = -1) := by omega
        simp [Lib.indexByte, h, h1, this]

theorem kof_ext {a b : ByteArray} (h : a.data.toList = b.data.toList) : a = b := by
  have h1 := Lib.mk_data a; have h2 := Lib.mk_data b
  rw [← h1, ← h2, h]
theorem drop_mk (s : ByteArray) (i : Nat) : (⟨(s.data.toList.drop i).toArray⟩ : ByteArray) = s.extract i s.size := by
  apply kof_ext
  rw [Lib.extract_data]
  simp
  rw [List.take_of_length_le (by simp)]
theorem belowN {B : Nat} {a w : World} (h : Below B a w) (q : Nat) : Below B a (w.drewN q) := ⟨h.os, h.tape, h.output, h.size, h.block⟩
theorem take_mk (s : ByteArray) (i : Nat) : (⟨(s.data.toList.take i).toArray⟩ : ByteArray) = s.extract 0 i := by
  apply kof_ext
  rw [Lib.extract_data]
  simp
set_option maxHeartbeats 1000000 in
theorem liteCut_any (s : ByteArray) (w : World) (hs : s.size ≤ 9223372036854775807) : Calls Try.prog 146 #[.string s, .string ⟨#[0]⟩] w fun e w' => (∃ f, e = .returned (.tuple #[.string ⟨(cutZ s.data.toList).1.toArray⟩, .string ⟨(cutZ s.data.toList).2.toArray⟩, .bool f])) ∧ Below w.heap.size w w' := by
  have HI : Hid (∀ w1, Calls Try.prog 148 #[.string s, .string ⟨#[0]⟩] w1 fun e w' => e = .returned (.int .i64 (Lib.indexByte s.data.toList 0)) ∧ w' = w1) := fun w1 => Try.stringslite_Index_one s 0 w1
  rcases cutZ_index s.data.toList with ⟨h1, h2⟩ | ⟨i, h0, h1, h2⟩
  · rw [h1] at HI
    rw [h2]
    clear h1 h2
    go_enter Try.func146, Try.ntmps146
    go_wp2_with ((go_at_call 148; refine (HI.out _).mono ?_; rintro e w1 ⟨rfl, rfl⟩))
    go_ret3
    exact ⟨⟨false, by simp⟩, Below.refl _ _⟩
  · rw [h1] at HI
    rw [h2]
    clear h1 h2
    have hi : i < s.size := by simpa using h0
    rw [drop_mk, take_mk]
    have hiI : (i : Int) + 1 ≤ (s.size : Int) := by omega
    have hiI2 : (i : Int) ≤ (s.size : Int) := by omega
    clear h0
    go_enter Try.func146, Try.ntmps146
    go_wp2_with ((go_at_call 148; refine (HI.out _).mono ?_; rintro e w1 ⟨rfl, rfl⟩))
    go_quiet (fail)
    go_wp2
    go_ret3
    exact ⟨⟨true, by simp⟩, belowN (Below.refl _ _) _⟩

end Go.Proofs.Ytcgjppacnhmjlaa
