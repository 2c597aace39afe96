/- merged, whatever the two lists. -/
import Derived.Test.YtcgjppacnhmjlaaUniC
set_option linter.unusedVariables false
set_option linter.unusedSimpArgs false
namespace Go.Proofs.Ytcgjppacnhmjlaa
open Go.RowKit
attribute [local go_sem ↓] Go.wp_at_zero Go.wp_at_succ

theorem merged_none (v1 : Value) (n : Int) (w : World) :
    Calls Try.prog 81 #[.slice none 0 0, v1, .int .i64 n] w fun e w' => e = .returned v1 ∧ w' = w := by
  go_enter Try.func81, Try.ntmps81
  go_wp2
  go_ret
  exact ⟨rfl, rfl⟩
theorem merged_less (ad : Addr) (len cap : Nat) (n : Int) (w : World) (h : 0 < len) (hl : len ≤ 256) :
    Calls Try.prog 81 #[.slice (some ad) len cap, .slice none 0 0, .int .i64 n] w fun e w' => e = .returned (.slice (some ad) len cap) ∧ w' = w := by
  have hp0 : ((len : Int) == 0) = false := by simp; omega
  go_enter Try.func81, Try.ntmps81
  go_wp2
  go_ret
  exact ⟨rfl, rfl⟩
theorem GP.len {p : List UInt8} {a : List (Grp ByteArray)} (h : GP p a) : a.length ≤ 256 := by
  have := pw_len (List.pairwise_map.mpr h.pw : (a.map (·.1)).Pairwise (· < ·))
  simpa using this
/-- The list of the groups of both. -/
theorem merged_any {S : Nat → Prop} {w : World} {n1 n2 K : Nat} {c : List UInt8} {v0 v1 : Value} {cs ds : List Nat} {a b : List (Grp ByteArray)} (hS : Open S w)
    (h0 : RowAt S w v0 cs) (h1 : RowAt S w v1 ds) (q0 : Kids S n1 w cs a) (q1 : Kids S n2 w ds b) (g0 : GP c a) (g1 : GP c b) (hc : c.length ≤ 64) (hn1 : n1 ≤ K) (hn2 : n2 ≤ K) (hm : (flatG a).length + (flatG b).length ≤ 1000000)
    (hU : ∀ (S' : Nat → Prop) (w1 : World) (t u : Nat) (p q : List KV), Open S' w1 → RepN S' n1 w1 t p → RepN S' n2 w1 u q → p.length + q.length ≤ 1000000 → (∃ z : UInt8, (∀ e ∈ p, ∃ r, e.1 = c ++ z :: r) ∧ ∀ e ∈ q, ∃ r, e.1 = c ++ z :: r) → Calls Try.prog 44 #[.pointer (some ⟨t, 0, none⟩), .pointer (some ⟨u, 0, none⟩)] w1 fun e w' => ∃ t', e = .returned (.pointer (some ⟨t', 0, none⟩)) ∧ RepN S' K w' t' (uni p q) ∧ Below w1.heap.size w1 w') :
    Calls Try.prog 81 #[v0, v1, .int .i64 c.length] w fun e w' => ∃ bv es, e = .returned bv ∧ RowAt S w' bv es ∧ Kids S K w' es (mg a b) ∧ Below w.heap.size w w' := by
  have hl0 : cs.length ≤ 256 := by rw [q0.1]; exact g0.len
  have hl1 : ds.length ≤ 256 := by rw [q1.1]; exact g1.len
  rcases h0 with ⟨rfl, rfl⟩ | ⟨k0, o0, p0, i1, rfl, i3, i4, i5, i6⟩
  · have ha : a = [] := List.length_eq_zero_iff.mp (by have := q0.1; simpa using this.symm)
    subst ha
    refine (merged_none v1 c.length w).mono ?_
    rintro e w' ⟨rfl, hw⟩
    subst hw
    exact ⟨_, ds, rfl, h1, by rw [nil_mg]; exact q1.fuel hn2, Below.refl _ _⟩
  · have hpos : 0 < cs.length := List.length_pos_iff.mpr i6
    have hk0 : k0 ≠ w.heap.size := by
      obtain ⟨c0, cr, rfl⟩ := List.exists_cons_of_ne_nil i6
      have := World.block_lt_of_cell? _ _ (i5 0 c0 rfl)
      exact Nat.ne_of_lt this
    rcases h1 with ⟨rfl, rfl⟩ | ⟨k1, o1, p1, j1, rfl, j3, j4, j5, j6⟩
    · have hb : b = [] := List.length_eq_zero_iff.mp (by have := q1.1; simpa using this.symm)
      subst hb
      refine (merged_less ⟨k0, o0, none⟩ cs.length p0 c.length w hpos hl0).mono ?_
      rintro e w' ⟨rfl, hw⟩
      subst hw
      exact ⟨_, cs, rfl, .inr ⟨k0, o0, p0, i1, rfl, i3, i4, i5, i6⟩, by rw [mg_nil]; exact q0.fuel hn1, Below.refl _ _⟩
    · have hk1 : k1 ≠ w.heap.size := by
        obtain ⟨c0, cr, rfl⟩ := List.exists_cons_of_ne_nil j6
        have := World.block_lt_of_cell? _ _ (j5 0 c0 rfl)
        exact Nat.ne_of_lt this
      exact merged_main hS ⟨i3, i4, i5, hk0⟩ ⟨j3, j4, j5, hk1⟩ q0 q1 i6 j6 g0 g1 hc hn1 hn2 hm hl0 hl1 hU

end Go.Proofs.Ytcgjppacnhmjlaa
