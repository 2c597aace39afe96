/- The document's own answer: which of two keys is ahead, and the place of a key in a list of pairs. -/
import Derived.Test.YtcgjppacnhmjlaaGreatIndexB
set_option linter.unusedVariables false
set_option linter.unusedSimpArgs false
namespace Go.Proofs.YtcgjppacnhmjlaaGreat
open Go.RowKit

theorem bytesLess_at (a b : List UInt8) (j : Nat) (he : a.take j = b.take j) (ha : j < a.length) (hb : j < b.length) (hne : a[j] ≠ b[j]) : decide (a[j] < b[j]) = Op.bytesLess a b := by
  have h1 : a = a.take j ++ a[j] :: a.drop (j + 1) := by rw [List.getElem_cons_drop, List.take_append_drop]
  have h2 : b = a.take j ++ b[j] :: b.drop (j + 1) := by rw [he, List.getElem_cons_drop, List.take_append_drop]
  rw [Bool.eq_iff_iff, decide_eq_true_iff, klt_dec]
  constructor
  · intro h
    have := klt_byte (a.take j) (a.drop (j + 1)) (b.drop (j + 1)) h
    rwa [← h1, ← h2] at this
  · intro h
    rw [h1, h2] at h
    rcases klt_cons.mp ((klt_app _ _ _).mp h) with h | ⟨h, _⟩
    · exact h
    · exact absurd h hne
theorem bytesLess_end (a b : List UInt8) (j : Nat) (he : a.take j = b.take j) (ha : j ≤ a.length) (hb : j ≤ b.length) (hj : ¬ (j < a.length ∧ j < b.length)) : decide (a.length < b.length) = Op.bytesLess a b := by
  rw [Bool.eq_iff_iff, decide_eq_true_iff, klt_dec]
  by_cases h1 : j < a.length
  · have h2 : b.length = j := by omega
    have e : b = a.take j := by rw [he]; exact (List.take_of_length_le (by omega)).symm
    constructor
    · intro h; omega
    · intro h
      exfalso
      have e2 : a = b ++ a.drop j := by rw [e, List.take_append_drop]
      rw [e2] at h
      have : klt (b ++ a.drop j) (b ++ []) := by rw [List.append_nil]; exact h
      exact klt_nil_right _ ((klt_app _ _ _).mp this)
  · have e : a = b.take j := by rw [← he]; exact (List.take_of_length_le (by omega)).symm
    have e2 : b = a ++ b.drop j := by rw [e, List.take_append_drop]
    have hal : a.length = j := by omega
    constructor
    · intro h
      rw [e2]
      have hl : b.drop j ≠ [] := by intro h0; have := congrArg List.length h0; simp at this; omega
      obtain ⟨y, q, hq⟩ := List.exists_cons_of_ne_nil hl
      rw [hq]
      exact klt_pre a y q
    · intro h
      rcases Nat.lt_or_ge a.length b.length with h3 | h3
      · exact h3
      · exfalso
        have : b.drop j = [] := List.drop_eq_nil_of_le (by omega)
        rw [this, List.append_nil] at e2
        rw [e2] at h
        exact klt_irrefl _ h

theorem bl_at (a b : ByteArray) (j : Nat) (he : a.data.toList.take j = b.data.toList.take j) (ha : j < a.size) (hb : j < b.size) (hne : (a[j].toNat : Int) ≠ (b[j].toNat : Int)) : decide (a[j].toNat < b[j].toNat) = Op.bytesLess a.data.toList b.data.toList := by
  have h := bytesLess_at a.data.toList b.data.toList j he (by simpa using ha) (by simpa using hb) (fun h => hne (by
    have h2 : a[j] = b[j] := h
    rw [h2]))
  rw [← h, Bool.eq_iff_iff, decide_eq_true_iff, decide_eq_true_iff]
  exact UInt8.lt_iff_toNat_lt
theorem bl_end (a b : ByteArray) (j : Nat) (he : a.data.toList.take j = b.data.toList.take j) (ha : j ≤ a.size) (hb : j ≤ b.size) (hj : ¬ (j < a.size ∧ j < b.size)) : decide (a.size < b.size) = Op.bytesLess a.data.toList b.data.toList := by
  have h := bytesLess_end a.data.toList b.data.toList j he (by simpa using ha) (by simpa using hb) (by simpa using hj)
  rw [← h, Bool.eq_iff_iff, decide_eq_true_iff, decide_eq_true_iff]
  simp
theorem bl_step (a b : ByteArray) (j : Nat) (he : a.data.toList.take j = b.data.toList.take j) (ha : j < a.size) (hb : j < b.size) (h : (a[j].toNat : Int) = (b[j].toNat : Int)) : a.data.toList.take (j + 1) = b.data.toList.take (j + 1) := by
  have e1 : a.data.toList[j]? = some a[j] := List.getElem?_eq_getElem (by simpa using ha)
  have e2 : b.data.toList[j]? = some b[j] := List.getElem?_eq_getElem (by simpa using hb)
  have e3 : a[j] = b[j] := UInt8.toNat_inj.mp (by omega)
  rw [List.take_add_one, List.take_add_one, he, e1, e2, e3]

set_option maxHeartbeats 1000000 in
theorem less_any (a b : ByteArray) (w : World) (ha : a.size ≤ 9223372036854775807) (hb : b.size ≤ 9223372036854775807) :
    Calls Tryz.prog 46 #[.string a, .string b] w fun e w' => e = .returned (.bool (Op.bytesLess a.data.toList b.data.toList)) ∧ ∃ n, w' = w.drewN n := by
  go_enter Tryz.func46, Tryz.ntmps46
  go_wp2
  go_loopg [5] a.size (fun gk s5 wr => ∃ j : Nat, s5 = .int .i64 j ∧ j ≤ a.size ∧ j ≤ b.size ∧ gk + j = a.size ∧ (∃ n, wr = w.drewN n) ∧ Hid (a.data.toList.take j = b.data.toList.take j))
  case atStart => exact ⟨0, rfl, Nat.zero_le _, Nat.zero_le _, by omega, ⟨0, rfl⟩, rfl⟩
  case round =>
    obtain ⟨j, rfl, hja, hjb, hg, ⟨nd, rfl⟩, HE⟩ := hrel
    by_cases h1 : j < a.size
    · by_cases h2 : j < b.size
      · by_cases h3 : (a[j].toNat : Int) = (b[j].toNat : Int)
        · have HE2 : Hid (a.data.toList.take (j + 1) = b.data.toList.take (j + 1)) := bl_step a b j HE.out h1 h2 h3
          go_wp2
          go_quiet (fail)
          go_wp2
          go_roundg (gk - 1)
          case measure => omega
          case rel => exact ⟨j + 1, by go_num, by omega, by omega, by omega, ⟨_, by first | rfl | exact World.drewN_drewN _ _ _⟩, HE2.out⟩
        · have HR := bl_at a b j HE.out h1 h2 h3
          have HR2 : Hid (decide (a[j].toNat < b[j].toNat) = Op.bytesLess a.data.toList b.data.toList) := HR
          clear HR
          go_wp2
          go_quiet (fail)
          go_wp2
          go_quiet (fail)
          go_wp2
          go_ret
          exact ⟨ret_bool HR2.out, _, by first | rfl | exact World.drewN_drewN _ _ _ | (rw [World.drewN_drewN, World.drewN_drewN])⟩
      · have HR2 : Hid (decide (a.size < b.size) = Op.bytesLess a.data.toList b.data.toList) := bl_end a b j HE.out hja hjb (by omega)
        go_wp2
        go_ret
        exact ⟨ret_bool HR2.out, _, rfl⟩
    · have HR2 : Hid (decide (a.size < b.size) = Op.bytesLess a.data.toList b.data.toList) := bl_end a b j HE.out hja hjb (by omega)
      go_wp2
      go_ret
      exact ⟨ret_bool HR2.out, _, rfl⟩

/-- A key as a text. -/
def keyOf (e : KV) : ByteArray := ⟨e.1.toArray⟩
theorem keyOf_list (e : KV) : (keyOf e).data.toList = e.1 := by simp [keyOf]
theorem keyOf_size (e : KV) : (keyOf e).size = e.1.length := by simp [keyOf, ByteArray.size]
/-- A list of pairs in memory. -/
def PairsAt (w : World) (g : Nat) (l : List KV) : Prop := ∀ (i : Nat) (e : KV), l[i]? = some e → w.cell? ⟨g, i * 2, none⟩ = some (.string (keyOf e)) ∧ w.cell? ⟨g, i * 2 + 1, none⟩ = some (.int .i64 e.2)
def rpos (k : List UInt8) (l : List KV) : Nat := l.countP fun e => Op.bytesLess e.1 k
theorem rpos_of (k : List UInt8) (l : List KV) (i : Nat) (hi : i ≤ l.length) (h1 : ∀ (t : Nat) e, t < i → l[t]? = some e → klt e.1 k) (h2 : ∀ (t : Nat) e, i ≤ t → l[t]? = some e → ¬ klt e.1 k) : rpos k l = i := by
  unfold rpos
  rw [show l.countP (fun e => Op.bytesLess e.1 k) = (l.take i ++ l.drop i).countP (fun e => Op.bytesLess e.1 k) by rw [List.take_append_drop], List.countP_append]
  have e1 : (l.take i).countP (fun e => Op.bytesLess e.1 k) = i := by
    have : (l.take i).countP (fun e => Op.bytesLess e.1 k) = (l.take i).length := List.countP_eq_length.mpr fun e he => by
      obtain ⟨t, ht⟩ := List.getElem?_of_mem he
      rw [List.getElem?_take] at ht
      split at ht
      · exact h1 t e (by assumption) ht
      · cases ht
    rw [this, List.length_take, Nat.min_eq_left hi]
  have e2 : (l.drop i).countP (fun e => Op.bytesLess e.1 k) = 0 := List.countP_eq_zero.mpr fun e he => by
    obtain ⟨t, ht⟩ := List.getElem?_of_mem he
    rw [List.getElem?_drop] at ht
    exact h2 (i + t) e (by omega) ht
  omega
theorem srt_get {l : List KV} (h : Srt l) {i j : Nat} {a b : KV} (ha : l[i]? = some a) (hb : l[j]? = some b) (hij : i < j) : klt a.1 b.1 := by
  obtain ⟨h1, rfl⟩ := List.getElem?_eq_some_iff.mp ha
  obtain ⟨h2, rfl⟩ := List.getElem?_eq_some_iff.mp hb
  exact List.pairwise_iff_getElem.mp h i j h1 h2 hij

end Go.Proofs.YtcgjppacnhmjlaaGreat
