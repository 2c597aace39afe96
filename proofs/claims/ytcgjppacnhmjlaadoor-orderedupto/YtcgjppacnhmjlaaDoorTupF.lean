/- Writing: short, raised, fits, writeNumber, writeText. -/
import Derived.Test.YtcgjppacnhmjlaaDoorTupQ
import Derived.Lib.ReplaceLaws
set_option linter.unusedVariables false
set_option linter.unusedSimpArgs false
namespace Go.Proofs.YtcgjppacnhmjlaaDoor
open Go.RowKit Go.Shelf
attribute [local go_sem ↓] Go.wp_at_zero Go.wp_at_succ

theorem esc_cut : ∀ (t : Bs), (Lib.indexByte t 0 = -1 → esc t = t) ∧ ∀ i : Nat, Lib.indexByte t 0 = i → esc t = t.take i ++ 0 :: 255 :: esc (t.drop (i + 1))
  | [] => ⟨fun _ => rfl, fun i h => by simp [Lib.indexByte] at h⟩
  | b :: t => by
    obtain ⟨h1, h2⟩ := esc_cut t
    by_cases hb : b = 0
    · subst hb
      refine ⟨fun h => by simp [Lib.indexByte] at h, fun i h => ?_⟩
      have : i = 0 := by simp [Lib.indexByte] at h; omega
      subst this
      simp [esc]
    · have hge := Lib.indexByte_ge t 0
      by_cases hm : Lib.indexByte t 0 = -1
      · refine ⟨fun _ => by simp [esc, hb, h1 hm], fun i h => ?_⟩
        simp [Lib.indexByte, hb, hm] at h
      · refine ⟨fun h => by simp [Lib.indexByte, hb, hm] at h; omega, fun i h => ?_⟩
        simp [Lib.indexByte, hb, hm] at h
        obtain ⟨j, rfl⟩ : ∃ j : Nat, i = j + 1 := ⟨i - 1, by omega⟩
        have := h2 j (by omega)
        simp [esc, hb, this]
theorem repl_esc : ∀ (n : Nat) (s : Bs) (k : Nat), s.length ≤ n → Lib.count s [0] ≤ k → Lib.replaceK [0] [0, 255] k s = esc s := by
  intro n
  induction n with
  | zero =>
    intro s k hs _
    have : s = [] := List.length_eq_zero_iff.mp (by omega)
    subst this
    cases k <;> rfl
  | succ n ih =>
    intro s k hs hk
    obtain ⟨e1, e2⟩ := esc_cut s
    by_cases hm : Lib.index s [0] = -1
    · have hm' : Lib.indexByte s 0 = -1 := by rw [← Lib.index_one]; exact hm
      rw [e1 hm']
      cases k with
      | zero => rfl
      | succ k => rw [Lib.replaceK, if_pos (by rw [hm]; rfl)]
    · have hge := Lib.index_ge s [0]
      obtain ⟨i, hi⟩ : ∃ i : Nat, Lib.index s [0] = i := ⟨(Lib.index s [0]).toNat, by omega⟩
      have hc := Lib.count_hit (s := s) (sub := [0]) (i := i) (by simp) hi
      cases k with
      | zero => omega
      | succ k =>
        rw [Lib.replaceK_hit [0] [0, 255] k s i hi, e2 i (by rw [← Lib.index_one]; exact hi)]
        have hlen : i < s.length := by
          rcases cutZ_index s with ⟨h, _⟩ | ⟨j, hj, h, _⟩
          · rw [← Lib.index_one] at h; omega
          · rw [← Lib.index_one] at h; omega
        rw [ih (s.drop (i + [0].length)) k (by simp; omega) (by omega)]
        simp
theorem replAll_esc (s : Bs) : Lib.replaceAll s [0] [0, 255] = esc s := by
  unfold Lib.replaceAll Lib.replace
  have h0 : ¬ (([0] : Bs) == [0, 255]) = true := by decide
  rw [if_neg h0]
  exact repl_esc s.length s _ (Nat.le_refl _) (by unfold Lib.replaceNum; rw [if_pos (.inl (by decide))]; exact Nat.le_refl _)
theorem raised_any (k : Int) (n : Int) (w : World) (hn : -9223372036854775808 ≤ n ∧ n ≤ 9223372036854775807) : Calls Tryd.prog 29 #[.int .i64 k, .int .i64 n] w fun e w' => e = .returned (.int .u64 ((n + 2 ^ (8 * widthOf k - 1)) % 18446744073709551616)) ∧ w' = w := by
  have HH := half_any k
  rcases widthOf_cases k with h | h | h | h
  all_goals
    rw [h] at HH ⊢
    clear h
    go_enter Tryd.func29, Tryd.ntmps29
    go_wp2_with ((go_at_call 46; refine (HH _).mono ?_; rintro e w1 ⟨rfl, rfl⟩))
    go_ret
    refine ⟨?_, rfl⟩
    refine congrArg (fun z => Ending.returned (Value.int .u64 z)) ?_
    simp only [IntKind.wrap_u64]
    omega
theorem short_any (k : Int) (n : Nat) (w : World) (hn : n < 18446744073709551616) : Calls Tryd.prog 41 #[.int .i64 k, .int .u64 n] w fun e w' => e = .returned (.bool (decide (n < 256 ^ widthOf k))) ∧ w' = w := by
  have HW := width_any k
  rcases widthOf_cases k with h | h | h | h
  all_goals
    rw [h] at HW ⊢
    clear h
    go_enter Tryd.func41, Tryd.ntmps41
    go_wp2_with ((go_at_call 44; refine (HW _).mono ?_; rintro e w1 ⟨rfl, rfl⟩))
    go_ret
    refine ⟨?_, rfl⟩
    refine congrArg (fun z => Ending.returned (Value.bool z)) ?_
    rw [Bool.eq_iff_iff]
    simp only [beq_iff_eq, decide_eq_true_eq]
    omega
theorem dg_step (j n : Nat) (pre : Bs) (m : Nat) (h : pre ++ dg (j + 1) n = dg m n) : (pre ++ [(n / 256 ^ j % 256).toUInt8]) ++ dg j n = dg m n := by
  rw [← h]; simp [dg]

set_option maxRecDepth 100000 in
set_option maxHeartbeats 4000000 in
theorem writeNumber_any (B b : Nat) (acc : Bs) (k : Int) (n : Nat) (w : World) (h : Bld B b acc w) (hn : n < 18446744073709551616) (hlen : acc.length + 8 ≤ 140737488355328) (hBw : B ≤ w.heap.size) :
    Calls Tryd.prog 28 #[.pointer (some ⟨b, 0, none⟩), .int .i64 k, .int .u64 n] w fun e w' => e = .returned (.tuple #[]) ∧ Bld B b (acc ++ dg (widthOf k) n) w' ∧ Below B w w' := by
  have HW := width_any k
  have hm8 : widthOf k ≤ 8 := by rcases widthOf_cases k with h | h | h | h <;> omega
  have HB : Hid (Bld B b acc w) := h
  generalize widthOf k = m at *
  clear h
  go_enter Tryd.func28, Tryd.ntmps28
  go_wp2_with ((go_at_call 44; refine (HW _).mono ?_; rintro e w1 ⟨rfl, rfl⟩))
  go_loopg [6] m (fun gk s6 wr => ∃ j : Nat, s6 = .int .i64 ((j : Int) - 1) ∧ j ≤ m ∧ gk = j ∧ Hid (∃ pre, Bld B b (acc ++ pre) wr ∧ pre ++ dg j n = dg m n ∧ Below B w1 wr ∧ pre.length + j = m))
  case atStart => exact ⟨m, rfl, Nat.le_refl _, rfl, [], by simpa using HB.out, by simp, Below.refl _ _, by simp⟩
  case round =>
    obtain ⟨j, rfl, hj, rfl, HI⟩ := hrel
    clear HB
    cases gk with
    | zero =>
      go_wp2
      go_end0
      obtain ⟨pre, h1, h2, h3, h4⟩ := HI.out
      refine ⟨rfl, ?_, h3⟩
      rw [← h2]; simpa [dg] using h1
    | succ i =>
      have HBy : Hid (∀ x : Int, x = ((n / 256 ^ i % 256 : Nat) : Int) → Calls Tryd.prog 45 #[.pointer (some ⟨b, 0, none⟩), .int .u8 x] wr fun e w' => e = .returned .nilIface ∧ (∃ pre, Bld B b (acc ++ pre) w' ∧ pre ++ dg i n = dg m n ∧ Below B w1 w' ∧ pre.length + i = m)) := fun x hx => by
        obtain ⟨pre, h1, h2, h3, h4⟩ := HI.out
        have hc : (n / 256 ^ i % 256).toUInt8.toNat = n / 256 ^ i % 256 := by
          rw [Nat.toUInt8, UInt8.toNat_ofNat']
          exact Nat.mod_eq_of_lt (by omega)
        have := bByte_any B b (acc ++ pre) (n / 256 ^ i % 256).toUInt8 wr h1 (by simp; omega) (Nat.le_trans hBw h3.size)
        rw [hc, ← hx] at this
        refine this.mono ?_
        rintro e w' ⟨a1, a2, a3⟩
        exact ⟨a1, pre ++ [(n / 256 ^ i % 256).toUInt8], by simpa using a2, dg_step i n pre m h2, h3.trans a3, by simp; omega⟩
      have hi8 : i = 0 ∨ i = 1 ∨ i = 2 ∨ i = 3 ∨ i = 4 ∨ i = 5 ∨ i = 6 ∨ i = 7 := by omega
      obtain ⟨q, hq⟩ : ∃ q : Nat, q = i := ⟨i, rfl⟩
      clear HI HW
      rcases hi8 with rfl | rfl | rfl | rfl | rfl | rfl | rfl | rfl
      all_goals
        go_wp2_with ((go_at_call 45; refine (HBy.out _ (by first | omega | (simp only [IntKind.wrap_u8]; omega))).mono ?_; rintro e w5 ⟨rfl, hx5⟩))
        go_roundg q
        case measure => omega
        case rel => subst hq; exact ⟨_, by go_num, by omega, rfl, hx5⟩

theorem below0 {B : Nat} {w w' : World} (hb : Below B w w') (hB : 0 < B) {m : Int} (hm : w.cell? ⟨0, 0, none⟩ = some (.int .i64 m)) : w'.cell? ⟨0, 0, none⟩ = some (.int .i64 m) := by
  rw [← hm]
  unfold World.cell?
  simp only [hb.block 0 hB]
set_option maxRecDepth 100000 in
set_option maxHeartbeats 1000000 in
theorem writeText_any (B b : Nat) (acc : Bs) (s : ByteArray) (w : World) (m : Int) (h : Bld B b acc w) (hm : w.cell? ⟨0, 0, none⟩ = some (.int .i64 m)) (hs : s.size < 4294967281) (hlen : acc.length + (esc s.data.toList).length + 2 ≤ 140737488355328) (hB0 : 0 < B) (hBw : B ≤ w.heap.size) :
    Calls Tryd.prog 26 #[.pointer (some ⟨b, 0, none⟩), .string s] w fun e w' => e = .returned (.tuple #[]) ∧ Bld B b (acc ++ (esc s.data.toList ++ [0, 0])) w' ∧ Below B w w' := by
  have hcb := Lib.countB_mul_le ⟨#[0]⟩ (by decide) s.size s (Nat.le_refl _)
  have HRep : Hid (Calls Tryd.prog 43 #[.string s, .string ⟨#[0]⟩, .string ⟨#[0, 255]⟩] w fun e w' => e = .returned (.string ⟨(esc s.data.toList).toArray⟩) ∧ Below w.heap.size w w') := by
    have := Tryd.strings_ReplaceAll s ⟨#[0]⟩ ⟨#[0, 255]⟩ m w hs hm (by decide) (by
      have e1 : (⟨#[0]⟩ : ByteArray).size = 1 := rfl
      have e2 : (⟨#[0, 255]⟩ : ByteArray).size = 2 := rfl
      rw [e1] at hcb
      rw [e2]
      omega)
    have e3 : Lib.replaceAll s.data.toList (⟨#[0]⟩ : ByteArray).data.toList (⟨#[0, 255]⟩ : ByteArray).data.toList = esc s.data.toList := replAll_esc _
    rw [e3] at this
    exact this
  have HB : Hid (Bld B b acc w) := h
  obtain ⟨es, hes⟩ : ∃ es, es = esc s.data.toList := ⟨_, rfl⟩
  rw [← hes] at HRep hlen ⊢
  have HW1 : Hid (∀ w1, Below w.heap.size w w1 → Calls Tryd.prog 42 #[.pointer (some ⟨b, 0, none⟩), .string ⟨es.toArray⟩] w1 fun e w' => (∃ r, e = .returned (.tuple #[.int .i64 r, .nilIface])) ∧ Bld B b (acc ++ es) w' ∧ Below B w w') := fun w1 hb => by
    refine (bStr_any B b acc ⟨es.toArray⟩ w1 (bld_on HB.out hb) (by show acc.length + es.toArray.size ≤ _; simp; omega) (Nat.le_trans hBw hb.size)).mono ?_
    rintro e w' ⟨h1, h2, h3⟩
    exact ⟨⟨_, h1⟩, by simpa using h2, (hb.mono hBw).trans h3⟩
  have HW2 : Hid (∀ w1, Bld B b (acc ++ es) w1 → Below B w w1 → Calls Tryd.prog 42 #[.pointer (some ⟨b, 0, none⟩), .string ⟨#[0, 0]⟩] w1 fun e w' => (∃ r, e = .returned (.tuple #[.int .i64 r, .nilIface])) ∧ Bld B b (acc ++ (es ++ [0, 0])) w' ∧ Below B w w') := fun w1 hB hb => by
    refine (bStr_any B b (acc ++ es) ⟨#[0, 0]⟩ w1 hB (by show (acc ++ es).length + 2 ≤ _; simp; omega) (Nat.le_trans hBw hb.size)).mono ?_
    rintro e w' ⟨h1, h2, h3⟩
    exact ⟨⟨_, h1⟩, by simpa using h2, hb.trans h3⟩
  clear h hm hes hcb
  go_enter Tryd.func26, Tryd.ntmps26
  go_wp2_with (first
    | (go_at_call 43; refine HRep.out.mono ?_; rintro e w1 ⟨rfl, hb1⟩)
    | (go_at_call 42; refine (HW1.out _ hb1).mono ?_; clear hb1; rintro e w2 ⟨⟨r2, rfl⟩, hB2, hb2⟩; have HB2 : Hid (Bld B b (acc ++ es) w2) := hB2; clear hB2)
    | (go_at_call 42; refine (HW2.out _ HB2.out hb2).mono ?_; rintro e w3 ⟨⟨r3, rfl⟩, hB3, hb3⟩))
  go_end0
  exact ⟨rfl, hB3, hb3⟩
/-- A value that the program can hold. -/
def ValOk (v : ValD) : Prop := v.u < 18446744073709551616 ∧ (-9223372036854775808 ≤ v.i ∧ v.i ≤ 9223372036854775807)
def vB (v : ValD) : Obj := .cells #[.int .u64 v.u, .int .i64 v.i, .string ⟨v.s.toArray⟩] 29
theorem vB_cells {w : World} {b : Nat} {v : ValD} (h : w.heap[b]? = some (vB v)) : w.cell? ⟨b, 0, none⟩ = some (.int .u64 v.u) ∧ w.cell? ⟨b, 1, none⟩ = some (.int .i64 v.i) ∧ w.cell? ⟨b, 2, none⟩ = some (.string ⟨v.s.toArray⟩) := by
  simp [World.cell?, h, vB]
theorem nil_bs (t : Bs) : List.isEmpty t = true ↔ t = [] := by cases t <;> simp
theorem raised_fit (k : Int) (i : Int) (hi : -9223372036854775808 ≤ i ∧ i ≤ 9223372036854775807) : (((i + 2 ^ (8 * widthOf k - 1)) % 18446744073709551616).toNat < 256 ^ widthOf k) ↔ (-(2 ^ (8 * widthOf k - 1)) ≤ i ∧ i < 2 ^ (8 * widthOf k - 1)) := by
  rcases widthOf_cases k with h | h | h | h <;> rw [h] <;> simp only [Nat.reduceMul, Nat.reduceSub, Nat.reducePow, Int.reducePow] <;> omega

set_option maxRecDepth 100000 in
set_option maxHeartbeats 2000000 in
theorem fits_any (k : Int) (v : ValD) (w : World) (hk : 1 ≤ k ∧ k ≤ 9) (hv : ValOk v) : Calls Tryd.prog 25 #[.int .i64 k, valV v] w fun e w' => e = .returned (.bool (decide (FitV k v))) ∧ Below w.heap.size w w' := by
  obtain ⟨u, i, t⟩ := v
  have hb0 : Below w.heap.size w (w.alloc (vB ⟨u, i, t⟩)) := belowA w _
  have eV : ∀ w1 : World, w1.alloc (.cells #[.int .u64 u, .int .i64 i, .string ⟨t.toArray⟩] 29) = w1.alloc (vB ⟨u, i, t⟩) := fun _ => rfl
  have c0 : (w.alloc (vB ⟨u, i, t⟩)).cell? ⟨w.heap.size, 0, none⟩ = some (.int .u64 u) := (vB_cells (heap_alloc_new w (vB ⟨u, i, t⟩))).1
  have c1 : (w.alloc (vB ⟨u, i, t⟩)).cell? ⟨w.heap.size, 1, none⟩ = some (.int .i64 i) := (vB_cells (heap_alloc_new w (vB ⟨u, i, t⟩))).2.1
  have c2 : (w.alloc (vB ⟨u, i, t⟩)).cell? ⟨w.heap.size, 2, none⟩ = some (.string ⟨t.toArray⟩) := (vB_cells (heap_alloc_new w (vB ⟨u, i, t⟩))).2.2
  have HRa : Hid (∀ w1, Calls Tryd.prog 29 #[.int .i64 k, .int .i64 i] w1 fun e w' => e = .returned (.int .u64 (((i + 2 ^ (8 * widthOf k - 1)) % 18446744073709551616).toNat : Nat)) ∧ w' = w1) := fun w1 => by
    have := raised_any k i w1 hv.2
    rw [Int.toNat_of_nonneg (Int.emod_nonneg _ (by decide))]
    exact this
  have HSh : Hid (∀ (n : Nat) w1, n < 18446744073709551616 → Calls Tryd.prog 41 #[.int .i64 k, .int .u64 n] w1 fun e w' => e = .returned (.bool (decide (n < 256 ^ widthOf k))) ∧ w' = w1) := fun n w1 h => short_any k n w1 h
  have hu := hv.1
  have hrf := raised_fit k i hv.2
  have hrl : ((i + 2 ^ (8 * widthOf k - 1)) % 18446744073709551616).toNat < 18446744073709551616 := by
    have := Int.emod_lt_of_pos (i + 2 ^ (8 * widthOf k - 1)) (show (0 : Int) < 18446744073709551616 by decide)
    omega
  dsimp only at hu
  clear hv
  unfold valV
  dsimp only
  by_cases h9 : k = 9
  · have hF : decide (FitV k ⟨u, i, t⟩) = (decide (u = 0) && decide (i = 0)) := by simp [FitV, h9]
    rw [hF]
    subst h9
    by_cases hu0 : u = 0
    · subst hu0
      go_enter Tryd.func25, Tryd.ntmps25
      go_wp2
      go_ret
      refine ⟨?_, hb0⟩
      refine congrArg (fun z => Ending.returned (Value.bool z)) ?_
      rw [Bool.eq_iff_iff]
      simp
    · have hu1 : ¬ ((u : Int) = 0) := by omega
      go_enter Tryd.func25, Tryd.ntmps25
      go_wp2
      go_ret
      refine ⟨?_, hb0⟩
      simp [hu0]
  · have HSg := fun w1 => signed_any k w1 hk.1 (by omega)
    by_cases h5 : 5 ≤ k
    · rw [decide_eq_true h5] at HSg
      have hF : decide (FitV k ⟨u, i, t⟩) = (decide (u = 0) && (decide (t = []) && decide (((i + 2 ^ (8 * widthOf k - 1)) % 18446744073709551616).toNat < 256 ^ widthOf k))) := by
        rw [Bool.eq_iff_iff]
        simp only [FitV, if_neg h9, if_pos h5, Bool.and_eq_true, decide_eq_true_eq, hrf]
      rw [hF]
      clear hF hrf
      generalize ((i + 2 ^ (8 * widthOf k - 1)) % 18446744073709551616).toNat = rr at *
      generalize 256 ^ widthOf k = lim at *
      by_cases hu0 : u = 0
      · subst hu0
        by_cases ht : t = []
        · subst ht
          go_enter Tryd.func25, Tryd.ntmps25
          go_wp2_with (first
            | (go_at_call 27; refine (HSg _).mono ?_; rintro e w1 ⟨rfl, rfl⟩)
            | (go_at_call 29; refine (HRa.out _).mono ?_; rintro e w1 ⟨rfl, rfl⟩)
            | (go_at_call 41; refine (HSh.out _ _ hrl).mono ?_; rintro e w1 ⟨rfl, rfl⟩))
          go_ret
          refine ⟨?_, hb0⟩
          refine congrArg (fun z => Ending.returned (Value.bool z)) ?_
          simp
        · have hte : List.isEmpty t = false := by
            cases t with
            | nil => exact absurd rfl ht
            | cons a l => rfl
          go_enter Tryd.func25, Tryd.ntmps25
          go_wp2_with (first
            | (go_at_call 27; refine (HSg _).mono ?_; rintro e w1 ⟨rfl, rfl⟩)
            | (go_at_call 29; refine (HRa.out _).mono ?_; rintro e w1 ⟨rfl, rfl⟩)
            | (go_at_call 41; refine (HSh.out _ _ hrl).mono ?_; rintro e w1 ⟨rfl, rfl⟩))
          go_ret
          refine ⟨?_, hb0⟩
          refine congrArg (fun z => Ending.returned (Value.bool z)) ?_
          simp [ht]
      · have hu1 : ¬ ((u : Int) = 0) := by omega
        go_enter Tryd.func25, Tryd.ntmps25
        go_wp2_with (first
          | (go_at_call 27; refine (HSg _).mono ?_; rintro e w1 ⟨rfl, rfl⟩)
          | (go_at_call 29; refine (HRa.out _).mono ?_; rintro e w1 ⟨rfl, rfl⟩)
          | (go_at_call 41; refine (HSh.out _ _ hrl).mono ?_; rintro e w1 ⟨rfl, rfl⟩))
        go_ret
        refine ⟨?_, hb0⟩
        refine congrArg (fun z => Ending.returned (Value.bool z)) ?_
        simp [hu0]
    · rw [decide_eq_false h5] at HSg
      have hF : decide (FitV k ⟨u, i, t⟩) = (decide (i = 0) && (decide (t = []) && decide (u < 256 ^ widthOf k))) := by
        rw [Bool.eq_iff_iff]
        simp only [FitV, if_neg h9, if_neg h5, Bool.and_eq_true, decide_eq_true_eq]
      rw [hF]
      clear hF hrf hrl HRa
      generalize 256 ^ widthOf k = lim at *
      by_cases hi0 : i = 0
      · subst hi0
        by_cases ht : t = []
        · subst ht
          go_enter Tryd.func25, Tryd.ntmps25
          go_wp2_with (first
            | (go_at_call 27; refine (HSg _).mono ?_; rintro e w1 ⟨rfl, rfl⟩)
            | (go_at_call 41; refine (HSh.out _ _ hu).mono ?_; rintro e w1 ⟨rfl, rfl⟩))
          go_ret
          refine ⟨?_, hb0⟩
          refine congrArg (fun z => Ending.returned (Value.bool z)) ?_
          simp
        · have hte : List.isEmpty t = false := by
            cases t with
            | nil => exact absurd rfl ht
            | cons a l => rfl
          go_enter Tryd.func25, Tryd.ntmps25
          go_wp2_with (first
            | (go_at_call 27; refine (HSg _).mono ?_; rintro e w1 ⟨rfl, rfl⟩)
            | (go_at_call 41; refine (HSh.out _ _ hu).mono ?_; rintro e w1 ⟨rfl, rfl⟩))
          go_ret
          refine ⟨?_, hb0⟩
          refine congrArg (fun z => Ending.returned (Value.bool z)) ?_
          simp [ht]
      · go_enter Tryd.func25, Tryd.ntmps25
        go_wp2_with (first
          | (go_at_call 27; refine (HSg _).mono ?_; rintro e w1 ⟨rfl, rfl⟩)
          | (go_at_call 41; refine (HSh.out _ _ hu).mono ?_; rintro e w1 ⟨rfl, rfl⟩))
        go_ret
        refine ⟨?_, hb0⟩
        refine congrArg (fun z => Ending.returned (Value.bool z)) ?_
        simp [hi0]

end Go.Proofs.YtcgjppacnhmjlaaDoor
