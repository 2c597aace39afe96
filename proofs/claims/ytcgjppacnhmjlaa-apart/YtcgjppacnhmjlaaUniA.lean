/- What a tree is to a node further ahead: seenFrom. -/
import Derived.Test.YtcgjppacnhmjlaaUniP
import Derived.Test.YtcgjppacnhmjlaaWithD
set_option linter.unusedVariables false
set_option linter.unusedSimpArgs false
namespace Go.Proofs.Ytcgjppacnhmjlaa
open Go.RowKit
attribute [local go_sem ↓] Go.wp_at_zero Go.wp_at_succ

/-- The trees at the blocks cs are those of the groups. -/
def Kids (S : Nat → Prop) (n : Nat) (w : World) (cs : List Nat) (a : List (Grp ByteArray)) : Prop :=
  cs.length = a.length ∧ ∀ (i c : Nat) q, cs[i]? = some c → a[i]? = some q → RepN S n w c q.2
section
variable {S S' : Nat → Prop} {n m : Nat} {w w' : World} {cs ds : List Nat} {a b : List (Grp ByteArray)}
theorem Kids.on (h : Kids S n w cs a) (hb : Below w.heap.size w w') : Kids S n w' cs a := ⟨h.1, fun i c q h1 h2 => (h.2 i c q h1 h2).on hb⟩
theorem Kids.fuel (h : Kids S n w cs a) (hnm : n ≤ m) : Kids S m w cs a := ⟨h.1, fun i c q h1 h2 => (h.2 i c q h1 h2).fuel hnm⟩
theorem Kids.weaken (h : Kids S n w cs a) (hS : ∀ k, S k → k < w.heap.size → S' k) : Kids S' n w cs a := ⟨h.1, fun i c q h1 h2 => (h.2 i c q h1 h2).weaken hS⟩
theorem Kids.frame (h : Kids S n w cs a) (hk : Kept S w w') : Kids S n w' cs a := ⟨h.1, fun i c q h1 h2 => (h.2 i c q h1 h2).frame hk⟩
theorem Kids.nil : Kids S n w [] ([] : List (Grp ByteArray)) := ⟨rfl, fun i c q h => by simp at h⟩
theorem Kids.one {c : Nat} {q : Grp ByteArray} (h : RepN S n w c q.2) : Kids S n w [c] [q] := ⟨rfl, fun i d r h1 h2 => by
  cases i with
  | zero => simp at h1 h2; subst h1; subst h2; exact h
  | succ i => simp at h1⟩
theorem Kids.head {c : Nat} {q : Grp ByteArray} (h : Kids S n w (c :: cs) (q :: a)) : RepN S n w c q.2 := h.2 0 c q rfl rfl
theorem Kids.tail {c : Nat} {q : Grp ByteArray} (h : Kids S n w (c :: cs) (q :: a)) : Kids S n w cs a := ⟨by have := h.1; simpa using this, fun i d r h1 h2 => h.2 (i + 1) d r h1 h2⟩
theorem Kids.append (h : Kids S n w cs a) (h2 : Kids S n w ds b) : Kids S n w (cs ++ ds) (a ++ b) := by
  refine ⟨by simp [h.1, h2.1], fun i c q hc hq => ?_⟩
  rw [List.getElem?_append] at hc hq
  rw [h.1] at hc
  by_cases hi : i < a.length
  · rw [if_pos hi] at hc hq; exact h.2 i c q hc hq
  · rw [if_neg hi] at hc hq; exact h2.2 _ c q hc hq
theorem Kids.of {xs : List UInt8} {gs : List (List KV)} (hl : cs.length = gs.length) (hx : xs.length = gs.length) (h : ∀ (i c : Nat) g, cs[i]? = some c → gs[i]? = some g → RepN S n w c g) : Kids S n w cs (xs.zip gs) := by
  refine ⟨by simp [hl, hx], fun i c q hc hq => ?_⟩
  obtain ⟨_, hg⟩ := List.getElem?_zip_eq_some.mp hq
  exact h i c _ hc hg
theorem Kids.to (h : Kids S n w cs a) : cs.length = (a.map (·.2)).length ∧ ∀ (i c : Nat) g, cs[i]? = some c → (a.map (·.2))[i]? = some g → RepN S n w c g := by
  refine ⟨by simp [h.1], fun i c g hc hg => ?_⟩
  rw [List.getElem?_map, Option.map_eq_some_iff] at hg
  obtain ⟨q, hq, rfl⟩ := hg
  exact h.2 i c q hc hq
end

set_option maxRecDepth 100000 in
/-- The tree itself, one branch. -/
theorem seen_over {w : World} {t k : Nat} {pre : ByteArray} (hpc : w.cell? ⟨t, 0, none⟩ = some (.string pre)) (hp : pre.size ≤ 64) (hk : k < pre.size) :
    Calls Try.prog 79 #[.pointer (some ⟨t, 0, none⟩), .int .i64 k] w fun e w' => e = .returned (.tuple #[.pointer none, .slice (some ⟨w.heap.size, 0, none⟩) 1 1]) ∧ w' = w.alloc (.cells #[.pointer (some ⟨t, 0, none⟩)] 70) := by
  have h1 : (k : Int) < (pre.size : Int) := by omega
  go_enter Try.func79, Try.ntmps79
  go_wp2
  go_ret2
  exact ⟨rfl, rfl⟩
set_option maxRecDepth 100000 in
/-- The node's own. -/
theorem seen_own {w : World} {t k : Nat} {pre : ByteArray} {vp : Option Addr} {bv : Value} (hpc : w.cell? ⟨t, 0, none⟩ = some (.string pre)) (hvc : w.cell? ⟨t, 1, none⟩ = some (.pointer vp)) (hbc : w.cell? ⟨t, 2, none⟩ = some bv) (hp : pre.size ≤ 64) (hk : k = pre.size) :
    Calls Try.prog 79 #[.pointer (some ⟨t, 0, none⟩), .int .i64 k] w fun e w' => e = .returned (.tuple #[.pointer vp, bv]) ∧ ∃ n, w' = w.drewN n := by
  subst hk
  have h1 : ¬ (pre.size : Int) < (pre.size : Int) := by omega
  go_enter Try.func79, Try.ntmps79
  go_wp2_with fail
  go_quiet (fail)
  go_wp2_with fail
  go_ret2
  exact ⟨rfl, _, rfl⟩

end Go.Proofs.Ytcgjppacnhmjlaa
