/- The document's own codes: size, schema, least, digits. -/
import Derived.Test.YtcgjppacnhmjlaaTupQ
import Derived.Laws.IdiomStrings
set_option linter.unusedVariables false
set_option linter.unusedSimpArgs false
namespace Go.Proofs.Ytcgjppacnhmjlaa
open Go.RowKit Go.Shelf
attribute [local go_sem ↓] Go.wp_at_zero Go.wp_at_succ

def sizeK (k : Int) : Nat := if k = 9 then 0 else widthOf k
set_option maxHeartbeats 1000000 in
theorem refSize_any (k : Int) (w : World) (hk : 1 ≤ k ∧ k ≤ 9) : Calls Try.prog 58 #[.int .i64 k] w fun e w' => e = .returned (.int .i64 (sizeK k)) ∧ w' = w := by
  have : k = 1 ∨ k = 2 ∨ k = 3 ∨ k = 4 ∨ k = 5 ∨ k = 6 ∨ k = 7 ∨ k = 8 ∨ k = 9 := by omega
  rcases this with rfl | rfl | rfl | rfl | rfl | rfl | rfl | rfl | rfl
  all_goals
    go_enter Try.func58, Try.ntmps58
    go_wp2
    go_ret
    exact ⟨rfl, rfl⟩
set_option maxRecDepth 100000 in
set_option maxHeartbeats 1000000 in
theorem refSchema_any {w : World} {v : Value} {ks : List Int} (hv : IntsAt w v ks) (hl : ks.length ≤ 9223372036854775807) : Calls Try.prog 57 #[v] w fun e w' => e = .returned (.bool (decide (IsSch ks))) ∧ w' = w := by
  obtain ⟨ao, kb, p, cap, rfl, hcap, hc⟩ := hv
  have HC : Hid (∀ (i : Nat) k, ks[i]? = some k → ao = some ⟨kb, p, none⟩ ∧ w.cell? ⟨kb, p + i, none⟩ = some (.int .i64 k)) := hc
  clear hc
  go_enter Try.func57, Try.ntmps57
  go_wp2
  go_loopg [3] ks.length (fun gk s3 wr => ∃ i : Nat, s3 = .int .i64 i ∧ i ≤ ks.length ∧ gk = ks.length - i ∧ wr = w ∧ Hid (∀ k ∈ ks.take i, 1 ≤ k ∧ k ≤ 9))
  case atStart => exact ⟨0, rfl, by omega, rfl, rfl, fun k hk => by simp at hk⟩
  case round =>
    obtain ⟨i, rfl, hi, rfl, rfl, HI⟩ := hrel
    by_cases hlt : i < ks.length
    · obtain ⟨k, hk⟩ : ∃ k, ks[i]? = some k := ⟨_, List.getElem?_eq_getElem hlt⟩
      obtain ⟨rfl, c0⟩ := HC.out i k hk
      have hltI : (i : Int) < (ks.length : Int) := by omega
      have HK : Hid (ks[i]? = some k) := hk
      clear hk
      by_cases g1 : 1 ≤ k
      · by_cases g2 : k ≤ 9
        · have g1' : ¬ k < 1 := by omega
          have g2' : ¬ (9 : Int) < k := by omega
          go_wp2
          go_roundg (ks.length - (i + 1))
          case measure => omega
          case rel =>
            refine ⟨i + 1, by go_num, by omega, rfl, rfl, fun x hx => ?_⟩
            rw [List.take_add_one, HK.out] at hx
            simp at hx
            rcases hx with hx | rfl
            · exact HI.out x hx
            · exact ⟨by omega, by omega⟩
        · have g2' : (9 : Int) < k := by omega
          have g1' : ¬ k < 1 := by omega
          go_wp2
          go_ret
          rw [decide_eq_false (fun h : IsSch ks => by have := h.all (List.mem_of_getElem? HK.out); omega)]
          exact ⟨rfl, rfl⟩
      · have g1' : k < 1 := by omega
        go_wp2
        go_ret
        rw [decide_eq_false (fun h : IsSch ks => by have := h.all (List.mem_of_getElem? HK.out); omega)]
        exact ⟨rfl, rfl⟩
    · have hltI : ¬ (i : Int) < (ks.length : Int) := by omega
      have hall := HI.out
      rw [List.take_of_length_le (by omega)] at hall
      have hD : decide (IsSch ks) = (decide (1 ≤ ks.length) && decide (ks.length ≤ 6)) := by
        rw [Bool.eq_iff_iff]
        simp only [Bool.and_eq_true, decide_eq_true_eq]
        exact ⟨fun h => h.1, fun h => ⟨h, hall⟩⟩
      have HD : Hid (decide (IsSch ks) = (decide (1 ≤ ks.length) && decide (ks.length ≤ 6))) := hD
      clear hall hD HI HC
      by_cases n1 : 1 ≤ ks.length
      · have n1' : (1 : Int) ≤ (ks.length : Int) := by omega
        by_cases n2 : ks.length ≤ 6
        · have n2' : (ks.length : Int) ≤ 6 := by omega
          go_wp2
          go_ret
          rw [HD.out, decide_eq_true (show 1 ≤ ks.length by omega), decide_eq_true (show ks.length ≤ 6 by omega)]
          exact ⟨rfl, rfl⟩
        · have n2' : ¬ (ks.length : Int) ≤ 6 := by omega
          go_wp2
          go_ret
          rw [HD.out, decide_eq_true (show 1 ≤ ks.length by omega), decide_eq_false (show ¬ ks.length ≤ 6 by omega)]
          exact ⟨rfl, rfl⟩
      · have n1' : ¬ (1 : Int) ≤ (ks.length : Int) := by omega
        go_wp2
        go_ret
        rw [HD.out, decide_eq_false (show ¬ 1 ≤ ks.length by omega)]
        exact ⟨rfl, rfl⟩
set_option maxRecDepth 100000 in
set_option maxHeartbeats 1000000 in
theorem least_any (n : Nat) (w : World) (hn : n = 1 ∨ n = 2 ∨ n = 4 ∨ n = 8) : Calls Try.prog 59 #[.int .i64 n] w fun e w' => e = .returned (.int .i64 (-(2 ^ (8 * n - 1) : Int))) ∧ w' = w := by
  rcases hn with rfl | rfl | rfl | rfl
  · go_enter Try.func59, Try.ntmps59
    go_wp2
    refine wp_loop_rounds 1 ?_; rw [rounds_succ]
    go_wp2
    go_ret
    exact ⟨rfl, rfl⟩
  · go_enter Try.func59, Try.ntmps59
    go_wp2
    refine wp_loop_rounds 2 ?_; rw [rounds_succ]
    go_wp2
    rw [rounds_succ]
    go_wp2
    go_ret
    exact ⟨rfl, rfl⟩
  · go_enter Try.func59, Try.ntmps59
    go_wp2
    refine wp_loop_rounds 4 ?_; rw [rounds_succ]
    go_wp2
    rw [rounds_succ]
    go_wp2
    rw [rounds_succ]
    go_wp2
    rw [rounds_succ]
    go_wp2
    go_ret
    exact ⟨rfl, rfl⟩
  · go_enter Try.func59, Try.ntmps59
    go_wp2
    refine wp_loop_rounds 8 ?_; rw [rounds_succ]
    go_wp2
    rw [rounds_succ]
    go_wp2
    rw [rounds_succ]
    go_wp2
    rw [rounds_succ]
    go_wp2
    rw [rounds_succ]
    go_wp2
    rw [rounds_succ]
    go_wp2
    rw [rounds_succ]
    go_wp2
    rw [rounds_succ]
    go_wp2
    go_ret
    exact ⟨rfl, rfl⟩
theorem one_cell {w : World} {b : Nat} {v : Value} {t : TypeId} (h : w.heap[b]? = some (.cells #[v] t)) : w.cell? ⟨b, 0, none⟩ = some v := by simp [World.cell?, h]
theorem str_cat (a b : Bs) : (⟨a.toArray⟩ : ByteArray) ++ ⟨b.toArray⟩ = ⟨(a ++ b).toArray⟩ := by
  apply kof_ext
  simp
set_option maxRecDepth 100000 in
set_option maxHeartbeats 1000000 in
theorem digits_any (u n : Nat) (w : World) (hu : u < 18446744073709551616) (hn : n ≤ 8) : Calls Try.prog 94 #[.int .u64 u, .int .i64 n] w fun e w' => e = .returned (.tuple #[.string ⟨(dg n u).toArray⟩, .bool (decide (u / 256 ^ n = 0))]) ∧ Below w.heap.size w w' := by
  go_enter Try.func94, Try.ntmps94
  go_wp2
  go_loopg [0, 1, 6] n (fun gk s0 s1 s6 wr => ∃ j q : Nat, s1 = .int .i64 ((n : Int) - j) ∧ j ≤ n ∧ gk = n - j ∧ s0 = .int .u64 q ∧ s6 = .string ⟨(dg j u).toArray⟩ ∧ Hid (q = u / 256 ^ j) ∧ Hid (Below w.heap.size w wr))
  case atStart => exact ⟨0, u, by simp, by omega, rfl, rfl, rfl, (by simp : u = u / 256 ^ 0), Below.refl _ _⟩
  case round =>
    obtain ⟨j, q, rfl, hj, rfl, rfl, rfl, HQ, HB⟩ := hrel
    by_cases hlt : j < n
    · have hltI : (0 : Int) < (n : Int) - j := by omega
      have hq : q < 18446744073709551616 := by
        rw [HQ.out]
        exact Nat.lt_of_le_of_lt (Nat.div_le_self _ _) hu
      obtain ⟨b, hb⟩ : ∃ b : UInt8, b = (q % 256).toUInt8 := ⟨_, rfl⟩
      have hbq : (q : Int) % 256 = (b.toNat : Int) := by
        rw [hb, Nat.toUInt8, UInt8.toNat_ofNat', Nat.mod_eq_of_lt (by omega)]
        omega
      have hcv : (convert 114 9 (.slice (some ⟨wr.heap.size, 0, none⟩) 1 1)).run Try.prog (wr.alloc (.cells #[.int .u8 ((q : Int) % 256)] 5)) = .ok (.string ⟨#[b]⟩) (wr.alloc (.cells #[.int .u8 ((q : Int) % 256)] 5)) := by
        have := run_convert_bytes_back (P := Try.prog) (wr.alloc (.cells #[.int .u8 ((q : Int) % 256)] 5)) 114 9 5 ⟨wr.heap.size, 0, none⟩ 1 [b] Try.underlying114 Try.underlying5 Try.underlying9 (fun j hj => by
          have : j = 0 := by simp at hj; omega
          subst this
          have hc := one_cell (heap_alloc_new wr (.cells #[.int .u8 ((q : Int) % 256)] 5))
          rw [Addr.add_lit]
          show (wr.alloc (.cells #[.int .u8 ((q : Int) % 256)] 5)).cell? ⟨wr.heap.size, 0, none⟩ = _
          rw [hc, hbq]
          rfl)
        simpa using this
      have HBQ : Hid (b = (u / 256 ^ j % 256).toUInt8) := by show b = _; rw [hb, HQ.out]
      have hdl := dg_len j u
      clear hb hbq
      go_wp2
      go_roundg (n - (j + 1))
      case measure => omega
      case rel =>
        refine ⟨j + 1, q / 256, by go_num, by omega, rfl, by first | rfl | simp, ?_, (by rw [HQ.out, Nat.div_div_eq_div_mul, Nat.pow_succ] : q / 256 = u / 256 ^ (j + 1)), HB.out.alloc HB.out.size _⟩
        have := str_cat [b] (dg j u)
        simp only [dg, ← HBQ.out]
        exact congrArg Value.string this
    · have hje : j = n := by omega
      subst hje
      go_wp2
      go_ret2
      rw [HQ.out]
      refine ⟨congrArg (fun z => Ending.returned (.tuple #[.string ⟨(dg j u).toArray⟩, .bool z])) ?_, HB.out⟩
      rw [Bool.eq_iff_iff]
      simp only [beq_iff_eq, decide_eq_true_eq]
      omega

end Go.Proofs.Ytcgjppacnhmjlaa
