/- Own texts: PLeafA, PLeafB. -/
import Derived.Test.YtcgjppacnhmjlaaRows
import Derived.WalkKit
import Derived.WalkSpells
import Derived.WalkLawsBesides
import Derived.Deep.QuietTactic
import Derived.BigQuiet
import Derived.Lib.Strings
import Derived.Deep.LoopGhost

section
set_option linter.unusedVariables false
set_option linter.unusedSimpArgs false
set_option linter.unusedSectionVars false
set_option linter.unusedVariables false
set_option linter.unusedSimpArgs false
namespace Go.Proofs.Ytcgjppacnhmjlaa
open Go.RowKit

def lcpLen : List UInt8 → List UInt8 → Nat
  | [], _ => 0
  | _, [] => 0
  | a :: r, b :: q => if a = b then lcpLen r q + 1 else 0

theorem lcpLen_le_left (a b : List UInt8) : lcpLen a b ≤ a.length := by
  induction a generalizing b with
  | nil => simp [lcpLen]
  | cons x xs ih => cases b with
    | nil => simp [lcpLen]
    | cons y ys => simp only [lcpLen]; split <;> simp; exact ih ys
theorem lcpLen_le_right (a b : List UInt8) : lcpLen a b ≤ b.length := by
  induction a generalizing b with
  | nil => simp [lcpLen]
  | cons x xs ih => cases b with
    | nil => simp [lcpLen]
    | cons y ys => simp only [lcpLen]; split <;> simp; exact ih ys
theorem lcpLen_of (a b : List UInt8) (k : Nat) (ha : k ≤ a.length) (hb : k ≤ b.length) (ht : a.take k = b.take k)
    (hs : k = a.length ∨ k = b.length ∨ ∃ (h1 : k < a.length) (h2 : k < b.length), a[k] ≠ b[k]) : lcpLen a b = k := by
  induction a generalizing b k with
  | nil => simp at ha; simp [lcpLen, ha]
  | cons x xs ih => cases b with
    | nil => simp at hb; simp [lcpLen, hb]
    | cons y ys =>
      cases k with
      | zero =>
        rcases hs with h | h | ⟨_, _, h⟩
        · simp at h
        · simp at h
        · simp at h; simp [lcpLen, h]
      | succ k =>
        simp at ha hb ht
        obtain ⟨rfl, ht⟩ := ht
        simp only [lcpLen, if_true]
        have := ih ys k ha hb ht (by
          rcases hs with h | h | ⟨h1, h2, h⟩
          · left; simpa using h
          · right; left; simpa using h
          · right; right; simp at h1 h2 h; exact ⟨h1, h2, h⟩)
        omega
theorem take_snoc (s : ByteArray) (k : Nat) (h : k < s.size) : s.data.toList.take (k + 1) = s.data.toList.take k ++ [s[k]] := by
  rw [List.take_succ_eq_append_getElem (by simpa using h)]; rfl

theorem lcpLen_ba (a b : ByteArray) (k : Nat) (ha : k ≤ a.size) (hb : k ≤ b.size) (ht : a.data.toList.take k = b.data.toList.take k)
    (hs : k = a.size ∨ k = b.size ∨ ∃ (h1 : k < a.size) (h2 : k < b.size), a[k] ≠ b[k]) : lcpLen a.data.toList b.data.toList = k :=
  lcpLen_of _ _ k (by simpa using ha) (by simpa using hb) ht (by
    rcases hs with h | h | ⟨h1, h2, h⟩
    · exact .inl (by simpa using h)
    · exact .inr (.inl (by simpa using h))
    · exact .inr (.inr ⟨by simpa using h1, by simpa using h2, h⟩))
theorem byte_ext {a b : UInt8} (h : (a.toNat : Int) = (b.toNat : Int)) : a = b := UInt8.toNat_inj.mp (by omega)
theorem ret_int {k : IntKind} {a b : Int} (h : a = b) : Ending.returned (.int k a) = .returned (.int k b) := by rw [h]

set_option maxHeartbeats 400000 in
theorem sharedLength_any (a b : ByteArray) (w : World) (ha : a.size ≤ maxLen) (hb : b.size ≤ maxLen) :
    Calls Try.prog 78 #[.string a, .string b] w fun e w' => e = .returned (.int .i64 (lcpLen a.data.toList b.data.toList)) ∧ ∃ n, w' = w.drewN n := by
  unfold maxLen at ha hb
  go_enter Try.func78, Try.ntmps78
  go_wp2
  go_loopw [5] (fun n wr => ∃ k : Nat, k ≤ a.size ∧ k ≤ b.size ∧ a.data.toList.take k = b.data.toList.take k ∧ n = .int .i64 k ∧ ∃ n, wr = w.drewN n) (fun n _ => a.size - (intOf n).toNat)
  case atStart => exact ⟨0, Nat.zero_le _, Nat.zero_le _, rfl, rfl, 0, rfl⟩
  case round =>
    obtain ⟨k, hka, hkb, ht, rfl, n0, rfl⟩ := hrel
    have HT : Hid (a.data.toList.take k = b.data.toList.take k) := ht
    clear ht
    have take_of : ∀ (h1 : k < a.size) (h2 : k < b.size), a[k] = b[k] → a.data.toList.take (k + 1) = b.data.toList.take (k + 1) := by
      intro h1 h2 h3
      rw [take_snoc a k h1, take_snoc b k h2, HT.out, h3]
    have TK : Hid (∀ (h1 : k < a.size) (h2 : k < b.size), a[k] = b[k] → a.data.toList.take (k + 1) = b.data.toList.take (k + 1)) := take_of
    clear take_of
    have fin : ∀ (hs : k = a.size ∨ k = b.size ∨ ∃ (h1 : k < a.size) (h2 : k < b.size), a[k] ≠ b[k]), (k : Int) = (lcpLen a.data.toList b.data.toList : Nat) := by
      intro hs
      rw [lcpLen_ba a b k hka hkb HT.out hs]
    have FIN : Hid (∀ (hs : k = a.size ∨ k = b.size ∨ ∃ (h1 : k < a.size) (h2 : k < b.size), a[k] ≠ b[k]), (k : Int) = (lcpLen a.data.toList b.data.toList : Nat)) := fin
    clear fin
    by_cases h1 : k < a.size
    · by_cases h2 : k < b.size
      · by_cases h3 : (a[k].toNat : Int) = (b[k].toNat : Int)
        · go_wp2
          go_quiet (fail)
          go_wp2
          exact ⟨⟨k + 1, by omega, by omega, TK.out h1 h2 (byte_ext h3), by go_num, _, rfl⟩, by simp [intOf]; omega⟩
        · go_wp2
          go_quiet (fail)
          go_wp2
          go_ret
          exact ⟨ret_int (FIN.out (.inr (.inr ⟨h1, h2, fun h => h3 (by rw [h])⟩))), _, World.drewN_drewN _ _ _⟩
      · go_wp2
        go_quiet (fail)
        go_wp2
        go_ret
        exact ⟨ret_int (FIN.out (.inr (.inl (by omega)))), _, World.drewN_drewN _ _ _⟩
    · go_wp2
      go_quiet (fail)
      go_wp2
      go_ret
      exact ⟨ret_int (FIN.out (.inl (by omega))), _, World.drewN_drewN _ _ _⟩



theorem ret_bool {a b : Bool} (h : a = b) : Ending.returned (.bool a) = .returned (.bool b) := by rw [h]
theorem hasPrefix_short (s p : ByteArray) (h : ¬ p.size ≤ s.size) : false = Lib.hasPrefix s.data.toList p.data.toList := by
  rw [← Lib.hasPrefix_of_take, ← Lib.size_eq, ← Lib.size_eq]; simp [h]
theorem hasPrefix_long (s p : ByteArray) (h : p.size ≤ s.size) : ((s.extract 0 p.size).toList == p.toList) = Lib.hasPrefix s.data.toList p.data.toList := by
  rw [← Lib.hasPrefix_of_take, ← Lib.size_eq, ← Lib.size_eq, Lib.extract_toList, Lib.toList_data]; simp [h]
set_option maxHeartbeats 400000 in
theorem liteHasPrefix_any (s p : ByteArray) (w : World) (hs : s.size ≤ maxLen) (hp : p.size ≤ maxLen) :
    Calls Try.prog 95 #[.string s, .string p] w fun e w' => e = .returned (.bool (Lib.hasPrefix s.data.toList p.data.toList)) ∧ w' = w := by
  unfold maxLen at hs hp
  by_cases h : p.size ≤ s.size
  · go_enter Try.func95, Try.ntmps95
    go_wp2
    go_ret
    exact ⟨ret_bool (hasPrefix_long s p h), rfl⟩
  · go_enter Try.func95, Try.ntmps95
    go_wp2
    go_ret
    exact ⟨ret_bool (hasPrefix_short s p h), rfl⟩
set_option maxHeartbeats 400000 in
theorem hasPrefix_any (s p : ByteArray) (w : World) (hs : s.size ≤ maxLen) (hp : p.size ≤ maxLen) :
    Calls Try.prog 64 #[.string s, .string p] w fun e w' => e = .returned (.bool (Lib.hasPrefix s.data.toList p.data.toList)) ∧ w' = w := by
  go_enter Try.func64, Try.ntmps64
  go_wp2_with (go_at_call 95; refine (liteHasPrefix_any _ _ _ hs hp).mono ?_; rintro e w' ⟨rfl, rfl⟩)
  go_ret
  exact ⟨rfl, rfl⟩
def cmpByte (a b : UInt8) : Int := if a < b then -1 else if b < a then 1 else 0
theorem cmpByte_lt {a b : UInt8} (h : a.toNat < b.toNat) : cmpByte a b = -1 := if_pos h
theorem cmpByte_gt {a b : UInt8} (h : b.toNat < a.toNat) : cmpByte a b = 1 := by
  have h' : b < a := h
  have h2 : ¬ a < b := fun h3 => by have : a.toNat < b.toNat := h3; omega
  rw [cmpByte, if_neg h2, if_pos h']
theorem cmpByte_eq {a b : UInt8} (h : a.toNat = b.toNat) : cmpByte a b = 0 := by
  have h1 : ¬ b < a := fun h3 => by have : b.toNat < a.toNat := h3; omega
  have h2 : ¬ a < b := fun h3 => by have : a.toNat < b.toNat := h3; omega
  rw [cmpByte, if_neg h2, if_neg h1]
set_option maxHeartbeats 400000 in
theorem compareByte_any (a b : UInt8) (w : World) :
    Calls Try.prog 100 #[.int .u8 a.toNat, .int .u8 b.toNat] w fun e w' => e = .returned (.int .i64 (cmpByte a b)) ∧ w' = w := by
  rcases Nat.lt_trichotomy a.toNat b.toNat with h | h | h
  · rw [cmpByte_lt h]
    go_enter Try.func100, Try.ntmps100
    go_wp2
    go_ret
    exact ⟨rfl, rfl⟩
  · rw [cmpByte_eq h, ← h]
    go_enter Try.func100, Try.ntmps100
    go_wp2
    go_ret
    exact ⟨rfl, rfl⟩
  · rw [cmpByte_gt h]
    have h' : ¬ a.toNat < b.toNat := by omega
    go_enter Try.func100, Try.ntmps100
    go_wp2
    go_ret
    exact ⟨rfl, rfl⟩

end Go.Proofs.Ytcgjppacnhmjlaa
end

section
set_option linter.unusedVariables false
set_option linter.unusedSimpArgs false
set_option linter.unusedSectionVars false
set_option linter.unusedVariables false
set_option linter.unusedSimpArgs false
namespace Go.Proofs.Ytcgjppacnhmjlaa
open Go.RowKit

theorem size_nil (w : World) : Calls Try.prog 47 #[.pointer none] w fun e w' => e = .returned (.int .i64 0) ∧ w' = w := by
  go_enter Try.func47, Try.ntmps47
  go_wp2
  go_ret
  exact ⟨rfl, rfl⟩
theorem size_some (b : Nat) (n : Int) (w : World) (h : w.cell? ⟨b, 3, none⟩ = some (.int .i64 n)) :
    Calls Try.prog 47 #[.pointer (some ⟨b, 0, none⟩)] w fun e w' => e = .returned (.int .i64 n) ∧ w' = w := by
  go_enter Try.func47, Try.ntmps47
  go_wp2
  go_ret
  exact ⟨rfl, rfl⟩
/-- A Place: X, Y, Name. -/
abbrev Plc := Int × Int × ByteArray
abbrev plc (v : Plc) : Value := .agg #[.int .i64 v.1, .int .i64 v.2.1, .string v.2.2]
abbrev pl0 : Plc := (0, 0, ⟨#[]⟩)
def plcs (v : Plc) : Array Value := #[.int .i64 v.1, .int .i64 v.2.1, .string v.2.2]
/-- A Place lies in a block of its own. -/
def PlAt (w : World) (b : Nat) (v : Plc) : Prop := w.cell? ⟨b, 0, none⟩ = some (.int .i64 v.1) ∧ w.cell? ⟨b, 1, none⟩ = some (.int .i64 v.2.1) ∧ w.cell? ⟨b, 2, none⟩ = some (.string v.2.2)

/-- .. as a box. -/
def pbox (v : Plc) : Obj := .cells (plcs v) 46
theorem pbox_eq (x y : Int) (n : ByteArray) : Obj.cells #[.int .i64 x, .int .i64 y, .string n] 46 = pbox (x, y, n) := rfl
theorem pbox_cells {w : World} {b : Nat} {v : Plc} (h : w.heap[b]? = some (pbox v)) : w.cell? ⟨b, 0, none⟩ = some (.int .i64 v.1) ∧ w.cell? ⟨b, 1, none⟩ = some (.int .i64 v.2.1) ∧ w.cell? ⟨b, 2, none⟩ = some (.string v.2.2) := by
  refine ⟨?_, ?_, ?_⟩ <;> simp [World.cell?, h, pbox, plcs]
theorem pbox_free {w : World} {b : Nat} {v : Plc} (h : w.heap[b]? = some (pbox v)) (o : Nat) : w.frozen? ⟨b, o, none⟩ = false := by simp [World.frozen?, h, pbox]
theorem pbox_at {w : World} {b : Nat} {v : Plc} (h : w.heap[b]? = some (pbox v)) : PlAt w b v := pbox_cells h
theorem cell_alloc_old {w : World} {o : Obj} {b k : Nat} {v : Value} (h : w.cell? ⟨b, k, none⟩ = some v) : (w.alloc o).cell? ⟨b, k, none⟩ = some v :=
  (World.cell?_of_block (w := w) (a := ⟨b, k, none⟩) (Below.heap_alloc w o b (World.block_lt_of_cell? _ _ h))).trans h
theorem own_nil (b : Nat) (w : World) (h : w.cell? ⟨b, 1, none⟩ = some (.pointer none)) :
    Calls Try.prog 82 #[.pointer (some ⟨b, 0, none⟩)] w fun e w' => e = .returned (.tuple #[plc pl0, .bool false]) ∧ Below w.heap.size w w' := by
  have h1 := cell_alloc_old (o := .cells #[.int .i64 0, .int .i64 0, .string ⟨#[]⟩] 46) h
  go_enter Try.func82, Try.ntmps82
  go_wp2
  exact bodyPost_ret (v := .tuple #[plc pl0, .bool false]) (by simp [results, Try.results82, go_sem]) rfl ⟨rfl, ((Below.refl _ _).alloc (Nat.le_refl _) _).alloc (by simp) _⟩
theorem own_some (b vb : Nat) (v : Plc) (w : World) (h : w.cell? ⟨b, 1, none⟩ = some (.pointer (some ⟨vb, 0, none⟩))) (h2 : PlAt w vb v) :
    Calls Try.prog 82 #[.pointer (some ⟨b, 0, none⟩)] w fun e w' => e = .returned (.tuple #[plc v, .bool true]) ∧ Below w.heap.size w w' := by
  obtain ⟨c0, c1, c2⟩ := h2
  have h1 := cell_alloc_old (o := .cells #[.int .i64 0, .int .i64 0, .string ⟨#[]⟩] 46) h
  have d0 := cell_alloc_old (o := .cells #[.int .i64 0, .int .i64 0, .string ⟨#[]⟩] 46) c0
  have d1 := cell_alloc_old (o := .cells #[.int .i64 0, .int .i64 0, .string ⟨#[]⟩] 46) c1
  have d2 := cell_alloc_old (o := .cells #[.int .i64 0, .int .i64 0, .string ⟨#[]⟩] 46) c2
  go_enter Try.func82, Try.ntmps82
  go_wp2
  exact bodyPost_ret (v := .tuple #[plc v, .bool true]) (by simp [results, Try.results82, go_sem]) rfl ⟨rfl, (Below.refl _ _).alloc (Nat.le_refl _) _⟩

/-- The list of branches cs lies in the cells of block k from o on. -/
def BrAt (w : World) (k o : Nat) (cs : List Nat) : Prop := ∀ (i c : Nat), cs[i]? = some c → w.cell? ⟨k, o + i, none⟩ = some (.pointer (some ⟨c, 0, none⟩))
/-- The sizes of the branches. -/
def SzAt (w : World) (cs : List Nat) (ns : List Nat) : Prop := cs.length = ns.length ∧ ∀ (i c n : Nat), cs[i]? = some c → ns[i]? = some n → w.cell? ⟨c, 3, none⟩ = some (.int .i64 n)

theorem sum_take_succ (ns : List Nat) (k n : Nat) (h : ns[k]? = some n) : (ns.take (k + 1)).sum = (ns.take k).sum + n := by
  rw [List.take_add_one, h]; simp
theorem sum_take_le (ns : List Nat) (k : Nat) : (ns.take k).sum ≤ ns.sum := by
  conv => rhs; rw [← List.take_append_drop k ns]
  rw [List.sum_append]; omega

def node (p : ByteArray) (vp bv : Value) (n : Nat) : Obj := .cells #[.string p, vp, bv, .int .i64 n] 103

theorem node_of {p : ByteArray} {vp bv : Value} {n : Int} {m : Nat} (h : n = (m : Int)) : Obj.cells #[.string p, vp, bv, .int .i64 n] 103 = node p vp bv m := by rw [h]; rfl
def own01 (vp : Option Addr) : Nat := if vp.isSome then 1 else 0

set_option maxHeartbeats 400000 in
theorem joined_some (p : ByteArray) (vp : Option Addr) (k o cap : Nat) (cs ns : List Nat) (w : World) (hb : BrAt w k o cs) (hz : SzAt w cs ns) (hlen : cs.length ≤ 256) (hsum : ns.sum ≤ 1000000) :
    Calls Try.prog 90 #[.string p, .pointer vp, .slice (some ⟨k, o, none⟩) cs.length cap] w fun e w' =>
      e = .returned (.pointer (some ⟨w.heap.size, 0, none⟩)) ∧ w' = w.alloc (node p (.pointer vp) (.slice (some ⟨k, o, none⟩) cs.length cap) (own01 vp + ns.sum)) := by
  have HB : Hid (BrAt w k o cs) := hb
  have HZ : Hid (SzAt w cs ns) := hz
  clear hb hz
  cases vp with
  | none =>
    go_enter Try.func90, Try.ntmps90
    go_wp2
    go_loopg [7, 14] cs.length (fun gk z i wr => ∃ j : Nat, j ≤ cs.length ∧ gk + j = cs.length ∧ z = .int .i64 ((0 + (ns.take j).sum : Nat) : Int) ∧ i = .int .i64 j ∧ wr = w)
    case atStart => exact ⟨0, Nat.zero_le _, by omega, rfl, rfl, rfl⟩
    case round =>
      obtain ⟨j, hj, hg, rfl, rfl, rfl⟩ := hrel
      by_cases hlt : j < cs.length
      · obtain ⟨c, hc⟩ : ∃ c, cs[j]? = some c := ⟨cs[j], List.getElem?_eq_getElem hlt⟩
        obtain ⟨n, hn⟩ : ∃ n, ns[j]? = some n := ⟨ns[j]'(by rw [← HZ.out.1]; exact hlt), List.getElem?_eq_getElem _⟩
        have hb := HB.out j c hc
        have hz := HZ.out.2 j c n hc hn
        have h1 := sum_take_succ ns j n hn
        have h2 := sum_take_le ns j
        have h3 := sum_take_le ns (j + 1)
        have A1 : Hid ((ns.take (j + 1)).sum = (ns.take j).sum + n) := h1
        have hs2 : (ns.take j).sum + n ≤ 1000000 := by omega
        clear hc hn h1 h3
        go_wp2
        go_roundg (gk - 1)
        case measure => omega
        case rel => exact ⟨j + 1, by omega, by omega, by rw [A1.out]; go_num, by go_num, rfl⟩
      · have HE : Hid ((ns.take j).sum = ns.sum) := by
          have e1 : j = ns.length := by have := HZ.out.1; omega
          rw [e1]; exact congrArg List.sum (List.take_length)
        have h2 := sum_take_le ns j
        go_wp2
        go_ret
        exact ⟨rfl, congrArg _ (node_of (by rw [HE.out]; simp [own01]))⟩
  | some vb =>
    go_enter Try.func90, Try.ntmps90
    go_wp2
    go_loopg [7, 14] cs.length (fun gk z i wr => ∃ j : Nat, j ≤ cs.length ∧ gk + j = cs.length ∧ z = .int .i64 ((1 + (ns.take j).sum : Nat) : Int) ∧ i = .int .i64 j ∧ wr = w)
    case atStart => exact ⟨0, Nat.zero_le _, by omega, rfl, rfl, rfl⟩
    case round =>
      obtain ⟨j, hj, hg, rfl, rfl, rfl⟩ := hrel
      by_cases hlt : j < cs.length
      · obtain ⟨c, hc⟩ : ∃ c, cs[j]? = some c := ⟨cs[j], List.getElem?_eq_getElem hlt⟩
        obtain ⟨n, hn⟩ : ∃ n, ns[j]? = some n := ⟨ns[j]'(by rw [← HZ.out.1]; exact hlt), List.getElem?_eq_getElem _⟩
        have hb := HB.out j c hc
        have hz := HZ.out.2 j c n hc hn
        have h1 := sum_take_succ ns j n hn
        have h2 := sum_take_le ns j
        have h3 := sum_take_le ns (j + 1)
        have A1 : Hid ((ns.take (j + 1)).sum = (ns.take j).sum + n) := h1
        have hs2 : (ns.take j).sum + n ≤ 1000000 := by omega
        clear hc hn h1 h3
        go_wp2
        go_roundg (gk - 1)
        case measure => omega
        case rel => exact ⟨j + 1, by omega, by omega, by rw [A1.out]; go_num, by go_num, rfl⟩
      · have HE : Hid ((ns.take j).sum = ns.sum) := by
          have e1 : j = ns.length := by have := HZ.out.1; omega
          rw [e1]; exact congrArg List.sum (List.take_length)
        have h2 := sum_take_le ns j
        go_wp2
        go_ret
        exact ⟨rfl, congrArg _ (node_of (by rw [HE.out]; simp [own01]))⟩

set_option maxHeartbeats 400000 in
theorem joined_nil (p : ByteArray) (vp : Option Addr) (w : World) :
    Calls Try.prog 90 #[.string p, .pointer vp, .slice none 0 0] w fun e w' =>
      e = .returned (.pointer (some ⟨w.heap.size, 0, none⟩)) ∧ w' = w.alloc (node p (.pointer vp) (.slice none 0 0) (own01 vp)) := by
  cases vp with
  | none =>
    go_enter Try.func90, Try.ntmps90
    go_wp2
    refine wp_loop_rounds 1 ?_
    rw [rounds_succ]
    go_wp2
    go_ret
    exact ⟨rfl, rfl⟩
  | some vb =>
    go_enter Try.func90, Try.ntmps90
    go_wp2
    refine wp_loop_rounds 1 ?_
    rw [rounds_succ]
    go_wp2
    go_ret
    exact ⟨rfl, rfl⟩

end Go.Proofs.Ytcgjppacnhmjlaa
end
