/- What the small functions on one node of a tree answer: Size, own, joined. -/
import Derived.Test.YtcgjppacnhmjlaaGreatLeafA
import Derived.Deep.LoopGhost
set_option linter.unusedVariables false
set_option linter.unusedSimpArgs false
namespace Go.Proofs.YtcgjppacnhmjlaaGreat
open Go.RowKit

theorem size_nil (w : World) : Calls Tryz.prog 24 #[.pointer none] w fun e w' => e = .returned (.int .i64 0) ∧ w' = w := by
  go_enter Tryz.func24, Tryz.ntmps24
  go_wp2
  go_ret
  exact ⟨rfl, rfl⟩
theorem size_some (b : Nat) (n : Int) (w : World) (h : w.cell? ⟨b, 3, none⟩ = some (.int .i64 n)) :
    Calls Tryz.prog 24 #[.pointer (some ⟨b, 0, none⟩)] w fun e w' => e = .returned (.int .i64 n) ∧ w' = w := by
  go_enter Tryz.func24, Tryz.ntmps24
  go_wp2
  go_ret
  exact ⟨rfl, rfl⟩
theorem own_nil (b : Nat) (w : World) (h : w.cell? ⟨b, 1, none⟩ = some (.pointer none)) :
    Calls Tryz.prog 51 #[.pointer (some ⟨b, 0, none⟩)] w fun e w' => e = .returned (.tuple #[.int .i64 0, .bool false]) ∧ w' = w := by
  go_enter Tryz.func51, Tryz.ntmps51
  go_wp2
  go_ret2
  exact ⟨rfl, rfl⟩
theorem own_some (b vb : Nat) (v : Int) (w : World) (h : w.cell? ⟨b, 1, none⟩ = some (.pointer (some ⟨vb, 0, none⟩))) (h2 : w.cell? ⟨vb, 0, none⟩ = some (.int .i64 v)) :
    Calls Tryz.prog 51 #[.pointer (some ⟨b, 0, none⟩)] w fun e w' => e = .returned (.tuple #[.int .i64 v, .bool true]) ∧ w' = w := by
  go_enter Tryz.func51, Tryz.ntmps51
  go_wp2
  go_ret2
  exact ⟨rfl, rfl⟩

/-- The list of branches cs lies in the cells of block k from o on. -/
def BrAt (w : World) (k o : Nat) (cs : List Nat) : Prop := ∀ (i c : Nat), cs[i]? = some c → w.cell? ⟨k, o + i, none⟩ = some (.pointer (some ⟨c, 0, none⟩))
/-- The sizes of the branches. -/
def SzAt (w : World) (cs : List Nat) (ns : List Nat) : Prop := cs.length = ns.length ∧ ∀ (i c n : Nat), cs[i]? = some c → ns[i]? = some n → w.cell? ⟨c, 3, none⟩ = some (.int .i64 n)

theorem sum_take_succ (ns : List Nat) (k n : Nat) (h : ns[k]? = some n) : (ns.take (k + 1)).sum = (ns.take k).sum + n := by
  rw [List.take_add_one, h]; simp
theorem sum_take_le (ns : List Nat) (k : Nat) : (ns.take k).sum ≤ ns.sum := by
  conv => rhs; rw [← List.take_append_drop k ns]
  rw [List.sum_append]; omega

def node (p : ByteArray) (vp bv : Value) (n : Nat) : Obj := .cells #[.string p, vp, bv, .int .i64 n] 71

theorem node_of {p : ByteArray} {vp bv : Value} {n : Int} {m : Nat} (h : n = (m : Int)) : Obj.cells #[.string p, vp, bv, .int .i64 n] 71 = node p vp bv m := by rw [h]; rfl
def own01 (vp : Option Addr) : Nat := if vp.isSome then 1 else 0

set_option maxHeartbeats 400000 in
theorem joined_some (p : ByteArray) (vp : Option Addr) (k o cap : Nat) (cs ns : List Nat) (w : World) (hb : BrAt w k o cs) (hz : SzAt w cs ns) (hlen : cs.length ≤ 256) (hsum : ns.sum ≤ 1000000) :
    Calls Tryz.prog 75 #[.string p, .pointer vp, .slice (some ⟨k, o, none⟩) cs.length cap] w fun e w' =>
      e = .returned (.pointer (some ⟨w.heap.size, 0, none⟩)) ∧ w' = w.alloc (node p (.pointer vp) (.slice (some ⟨k, o, none⟩) cs.length cap) (own01 vp + ns.sum)) := by
  have HB : Hid (BrAt w k o cs) := hb
  have HZ : Hid (SzAt w cs ns) := hz
  clear hb hz
  cases vp with
  | none =>
    go_enter Tryz.func75, Tryz.ntmps75
    go_wp2
    go_loopg [7, 14] cs.length (fun gk z i wr => ∃ j : Nat, j ≤ cs.length ∧ gk + j = cs.length ∧ z = .int .i64 ((0 + (ns.take j).sum : Nat) : Int) ∧ i = .int .i64 j ∧ wr = w)
    case atStart => exact ⟨0, Nat.zero_le _, by omega, rfl, rfl, rfl⟩
    case round =>
      obtain ⟨j, hj, hg, rfl, rfl, rfl⟩ := hrel
      by_cases hlt : j < cs.length
      · obtain ⟨c, hc⟩ : ∃ c, cs[j]? = some c := ⟨cs[j], List.getElem?_eq_getElem hlt⟩
        obtain ⟨n, hn⟩ : ∃ n, ns[j]? = some n := ⟨ns[j]'(by rw [← HZ.out.1]; exact hlt), List.getElem?_eq_getElem _⟩
        have hb := HB.out j c hc
        have hz := HZ.out.2 j c n hc hn
        have h1 := sum_take_succ ns j n hn
        have h2 := sum_take_le ns j
        have h3 := sum_take_le ns (j + 1)
        have A1 : Hid ((ns.take (j + 1)).sum = (ns.take j).sum + n) := h1
        have hs2 : (ns.take j).sum + n ≤ 1000000 := by omega
        clear hc hn h1 h3
        go_wp2
        go_roundg (gk - 1)
        case measure => omega
        case rel => exact ⟨j + 1, by omega, by omega, by rw [A1.out]; go_num, by go_num, rfl⟩
      · have HE : Hid ((ns.take j).sum = ns.sum) := by
          have e1 : j = ns.length := by have := HZ.out.1; omega
          rw [e1]; exact congrArg List.sum (List.take_length)
        have h2 := sum_take_le ns j
        go_wp2
        go_ret
        exact ⟨rfl, congrArg _ (node_of (by rw [HE.out]; simp [own01]))⟩
  | some vb =>
    go_enter Tryz.func75, Tryz.ntmps75
    go_wp2
    go_loopg [7, 14] cs.length (fun gk z i wr => ∃ j : Nat, j ≤ cs.length ∧ gk + j = cs.length ∧ z = .int .i64 ((1 + (ns.take j).sum : Nat) : Int) ∧ i = .int .i64 j ∧ wr = w)
    case atStart => exact ⟨0, Nat.zero_le _, by omega, rfl, rfl, rfl⟩
    case round =>
      obtain ⟨j, hj, hg, rfl, rfl, rfl⟩ := hrel
      by_cases hlt : j < cs.length
      · obtain ⟨c, hc⟩ : ∃ c, cs[j]? = some c := ⟨cs[j], List.getElem?_eq_getElem hlt⟩
        obtain ⟨n, hn⟩ : ∃ n, ns[j]? = some n := ⟨ns[j]'(by rw [← HZ.out.1]; exact hlt), List.getElem?_eq_getElem _⟩
        have hb := HB.out j c hc
        have hz := HZ.out.2 j c n hc hn
        have h1 := sum_take_succ ns j n hn
        have h2 := sum_take_le ns j
        have h3 := sum_take_le ns (j + 1)
        have A1 : Hid ((ns.take (j + 1)).sum = (ns.take j).sum + n) := h1
        have hs2 : (ns.take j).sum + n ≤ 1000000 := by omega
        clear hc hn h1 h3
        go_wp2
        go_roundg (gk - 1)
        case measure => omega
        case rel => exact ⟨j + 1, by omega, by omega, by rw [A1.out]; go_num, by go_num, rfl⟩
      · have HE : Hid ((ns.take j).sum = ns.sum) := by
          have e1 : j = ns.length := by have := HZ.out.1; omega
          rw [e1]; exact congrArg List.sum (List.take_length)
        have h2 := sum_take_le ns j
        go_wp2
        go_ret
        exact ⟨rfl, congrArg _ (node_of (by rw [HE.out]; simp [own01]))⟩

set_option maxHeartbeats 400000 in
theorem joined_nil (p : ByteArray) (vp : Option Addr) (w : World) :
    Calls Tryz.prog 75 #[.string p, .pointer vp, .slice none 0 0] w fun e w' =>
      e = .returned (.pointer (some ⟨w.heap.size, 0, none⟩)) ∧ w' = w.alloc (node p (.pointer vp) (.slice none 0 0) (own01 vp)) := by
  cases vp with
  | none =>
    go_enter Tryz.func75, Tryz.ntmps75
    go_wp2
    refine wp_loop_rounds 1 ?_
    rw [rounds_succ]
    go_wp2
    go_ret
    exact ⟨rfl, rfl⟩
  | some vb =>
    go_enter Tryz.func75, Tryz.ntmps75
    go_wp2
    refine wp_loop_rounds 1 ?_
    rw [rounds_succ]
    go_wp2
    go_ret
    exact ⟨rfl, rfl⟩

end Go.Proofs.YtcgjppacnhmjlaaGreat
