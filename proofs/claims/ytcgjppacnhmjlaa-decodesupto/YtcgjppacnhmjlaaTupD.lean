/- Reading: read, Read, Decode. -/
import Derived.Test.YtcgjppacnhmjlaaTupC
set_option linter.unusedVariables false
set_option linter.unusedSimpArgs false
namespace Go.Proofs.Ytcgjppacnhmjlaa
open Go.RowKit Go.Shelf
attribute [local go_sem ↓] Go.wp_at_zero Go.wp_at_succ

def zV : Obj := .cells #[.int .u64 0, .int .i64 0, .string ⟨#[]⟩] 62
theorem zV_cells {w : World} {b : Nat} (h : w.heap[b]? = some zV) : w.cell? ⟨b, 0, none⟩ = some (.int .u64 0) ∧ w.cell? ⟨b, 1, none⟩ = some (.int .i64 0) ∧ w.cell? ⟨b, 2, none⟩ = some (.string ⟨#[]⟩) := by
  simp [World.cell?, h, zV]
theorem zV_free {w : World} {b : Nat} (h : w.heap[b]? = some zV) (o : Nat) : w.frozen? ⟨b, o, none⟩ = false := by
  simp [World.frozen?, h, zV]
/-- What read answers. -/
def ReadsV (k : Int) (s : ByteArray) (e : Ending) : Prop := match rdV k s.data.toList with
  | none => ∃ v, e = .returned (.tuple #[valV v, .string ⟨#[]⟩, .bool false])
  | some p => e = .returned (.tuple #[valV p.1, .string ⟨p.2.toArray⟩, .bool true])
theorem below_set3 {B b : Nat} {w0 w : World} {a c d : Value} (h : Below B w0 w) (hb : B ≤ b) : Below B w0 (((w.setCell ⟨b, 0, none⟩ a).setCell ⟨b, 1, none⟩ c).setCell ⟨b, 2, none⟩ d) :=
  ((h.setCell hb _).setCell hb _).setCell hb _

set_option maxRecDepth 100000 in
set_option maxHeartbeats 2000000 in
theorem readV_any (k : Int) (s : ByteArray) (w : World) (hk : 1 ≤ k ∧ k ≤ 9) (hs : s.size ≤ 140737488355328) : Calls Try.prog 93 #[.int .i64 k, .string s] w fun e w' => ReadsV k s e ∧ Below w.heap.size w w' := by
  have hb0 : Below w.heap.size w (w.alloc zV) := belowA w _
  have HZ : Hid (∀ w1, Below (w.alloc zV).heap.size (w.alloc zV) w1 → w1.heap[w.heap.size]? = some zV) := fun w1 hb => (hb.block _ (by simp)).trans (heap_alloc_new w _)
  have eZ : ∀ w1 : World, w1.alloc (.cells #[.int .u64 0, .int .i64 0, .string ⟨#[]⟩] 62) = w1.alloc zV := fun _ => rfl
  by_cases h9 : k = 9
  · subst h9
    have HT : Hid (Calls Try.prog 120 #[.string s] (w.alloc zV) fun e w' => e = .returned (textR (unesc s.data.toList)) ∧ Below (w.alloc zV).heap.size (w.alloc zV) w') := readText_any s (w.alloc zV) hs
    have hR : ∀ e, ReadsV 9 s e ↔ match unesc s.data.toList with
      | none => ∃ v, e = .returned (.tuple #[valV v, .string ⟨#[]⟩, .bool false])
      | some p => e = .returned (.tuple #[valV ⟨0, 0, p.1⟩, .string ⟨p.2.toArray⟩, .bool true]) := fun e => by
      unfold ReadsV rdV
      rw [if_pos rfl]
      cases unesc s.data.toList <;> rfl
    simp only [hR]
    clear hR
    cases hu : unesc s.data.toList with
    | none =>
      rw [hu] at HT
      unfold textR at HT
      clear hu
      go_enter Try.func93, Try.ntmps93
      go_wp2_with ((go_at_call 120; refine HT.out.mono ?_; rintro e w1 ⟨rfl, hb1⟩; obtain ⟨z0, z1, z2⟩ := zV_cells (HZ.out w1 hb1); have fz := zV_free (HZ.out w1 hb1); have HB1 : Hid (Below w.heap.size w w1) := hb0.trans (hb1.mono hb0.size); clear hb1))
      refine bodyPost_ret (v := .tuple #[valV ⟨0, 0, []⟩, .string ⟨#[]⟩, .bool false]) (by simp [results, Try.results93, go_sem, valV, z0, z1, z2]) rfl ⟨⟨_, rfl⟩, ?_⟩
      exact below_set3 HB1.out (Nat.le_refl _)
    | some p =>
      rw [hu] at HT
      unfold textR at HT
      clear hu
      go_enter Try.func93, Try.ntmps93
      go_wp2_with ((go_at_call 120; refine HT.out.mono ?_; rintro e w1 ⟨rfl, hb1⟩; obtain ⟨z0, z1, z2⟩ := zV_cells (HZ.out w1 hb1); have fz := zV_free (HZ.out w1 hb1); have HB1 : Hid (Below w.heap.size w w1) := hb0.trans (hb1.mono hb0.size); clear hb1))
      refine bodyPost_ret (v := .tuple #[valV ⟨0, 0, p.1⟩, .string ⟨p.2.toArray⟩, .bool true]) (by simp [results, Try.results93, go_sem, valV, z0, z1, z2]) rfl ⟨rfl, ?_⟩
      exact below_set3 HB1.out (Nat.le_refl _)
  · have hk8 : k ≤ 8 := by omega
    have HNu : Hid (Calls Try.prog 121 #[.int .i64 k, .string s] (w.alloc zV) fun e w' => e = .returned (if s.size < widthOf k then .tuple #[.int .u64 0, .string ⟨#[]⟩, .bool false] else .tuple #[.int .u64 (beOf (s.data.toList.take (widthOf k))), .string (s.extract (widthOf k) s.size), .bool true]) ∧ Below (w.alloc zV).heap.size (w.alloc zV) w') := readNumber_any k s (w.alloc zV) (by omega)
    have HSg := fun w1 => signed_any k w1 hk.1 hk8
    have HLo : Hid (∀ n w1, n < 256 ^ widthOf k → Calls Try.prog 123 #[.int .i64 k, .int .u64 (n : Nat)] w1 fun e w' => e = .returned (.int .i64 ((n : Int) - 2 ^ (8 * widthOf k - 1))) ∧ w' = w1) := fun n w1 h => lowered_any k n w1 h
    by_cases hlt : s.size < widthOf k
    · rw [if_pos hlt] at HNu
      have hR : ∀ e, ReadsV k s e ↔ ∃ v, e = .returned (.tuple #[valV v, .string ⟨#[]⟩, .bool false]) := fun e => by
        unfold ReadsV rdV
        rw [if_neg h9, if_pos (by simpa using hlt)]
      simp only [hR]
      have hpos : 0 < 256 ^ widthOf k := Nat.pow_pos (by decide)
      obtain ⟨low, hl0⟩ : ∃ low : Int, ∀ w1, Calls Try.prog 123 #[.int .i64 k, .int .u64 0] w1 fun e w' => e = .returned (.int .i64 low) ∧ w' = w1 := ⟨_, fun w1 => lowered_any k 0 w1 hpos⟩
      clear hR hlt hpos
      by_cases h5 : 5 ≤ k
      · rw [decide_eq_true h5] at HSg
        go_enter Try.func93, Try.ntmps93
        go_wp2_with (first
          | (go_at_call 121; refine HNu.out.mono ?_; rintro e w1 ⟨rfl, hb1⟩; obtain ⟨z0, z1, z2⟩ := zV_cells (HZ.out w1 hb1); have fz := zV_free (HZ.out w1 hb1); have HB1 : Hid (Below w.heap.size w w1) := hb0.trans (hb1.mono hb0.size); clear hb1)
          | (go_at_call 122; refine (HSg _).mono ?_; rintro e w2 ⟨rfl, rfl⟩)
          | (go_at_call 123; refine (hl0 _).mono ?_; rintro e w2 ⟨rfl, rfl⟩))
        refine bodyPost_ret (v := .tuple #[valV ⟨0, low, []⟩, .string ⟨#[]⟩, .bool false]) (by simp [results, Try.results93, go_sem, valV, z0, z1, z2]) rfl ⟨⟨_, rfl⟩, ?_⟩
        exact below_set3 HB1.out (Nat.le_refl _)
      · rw [decide_eq_false h5] at HSg
        go_enter Try.func93, Try.ntmps93
        go_wp2_with (first
          | (go_at_call 121; refine HNu.out.mono ?_; rintro e w1 ⟨rfl, hb1⟩; obtain ⟨z0, z1, z2⟩ := zV_cells (HZ.out w1 hb1); have fz := zV_free (HZ.out w1 hb1); have HB1 : Hid (Below w.heap.size w w1) := hb0.trans (hb1.mono hb0.size); clear hb1)
          | (go_at_call 122; refine (HSg _).mono ?_; rintro e w2 ⟨rfl, rfl⟩))
        refine bodyPost_ret (v := .tuple #[valV ⟨0, 0, []⟩, .string ⟨#[]⟩, .bool false]) (by simp [results, Try.results93, go_sem, valV, z0, z1, z2]) rfl ⟨⟨_, rfl⟩, ?_⟩
        exact below_set3 HB1.out (Nat.le_refl _)
    · rw [if_neg hlt] at HNu
      have hR : ∀ e, ReadsV k s e ↔ e = .returned (.tuple #[valV (if 5 ≤ k then ⟨0, (beOf (s.data.toList.take (widthOf k)) : Int) - 2 ^ (8 * widthOf k - 1), []⟩ else ⟨beOf (s.data.toList.take (widthOf k)), 0, []⟩), .string (s.extract (widthOf k) s.size), .bool true]) := fun e => by
        unfold ReadsV rdV
        rw [if_neg h9, if_neg (by simpa using hlt)]
        dsimp only
        rw [drop_mk]
      simp only [hR]
      have hbn := beOf_lt (widthOf k) (s.data.toList.take (widthOf k)) (by simp; omega)
      have hl0 := fun w1 => HLo.out _ w1 hbn
      generalize beOf (s.data.toList.take (widthOf k)) = n at *
      generalize s.extract (widthOf k) s.size = rest at *
      clear hR hlt hbn HLo
      by_cases h5 : 5 ≤ k
      · rw [decide_eq_true h5] at HSg
        rw [if_pos h5]
        generalize (n : Int) - 2 ^ (8 * widthOf k - 1) = low at *
        go_enter Try.func93, Try.ntmps93
        go_wp2_with (first
          | (go_at_call 121; refine HNu.out.mono ?_; rintro e w1 ⟨rfl, hb1⟩; obtain ⟨z0, z1, z2⟩ := zV_cells (HZ.out w1 hb1); have fz := zV_free (HZ.out w1 hb1); have HB1 : Hid (Below w.heap.size w w1) := hb0.trans (hb1.mono hb0.size); clear hb1)
          | (go_at_call 122; refine (HSg _).mono ?_; rintro e w2 ⟨rfl, rfl⟩)
          | (go_at_call 123; refine (hl0 _).mono ?_; rintro e w2 ⟨rfl, rfl⟩))
        refine bodyPost_ret (v := .tuple #[valV ⟨0, low, []⟩, .string rest, .bool true]) (by simp [results, Try.results93, go_sem, valV, z0, z1, z2]) rfl ⟨rfl, ?_⟩
        exact below_set3 HB1.out (Nat.le_refl _)
      · rw [decide_eq_false h5] at HSg
        rw [if_neg h5]
        go_enter Try.func93, Try.ntmps93
        go_wp2_with (first
          | (go_at_call 121; refine HNu.out.mono ?_; rintro e w1 ⟨rfl, hb1⟩; obtain ⟨z0, z1, z2⟩ := zV_cells (HZ.out w1 hb1); have fz := zV_free (HZ.out w1 hb1); have HB1 : Hid (Below w.heap.size w w1) := hb0.trans (hb1.mono hb0.size); clear hb1)
          | (go_at_call 122; refine (HSg _).mono ?_; rintro e w2 ⟨rfl, rfl⟩))
        refine bodyPost_ret (v := .tuple #[valV ⟨n, 0, []⟩, .string rest, .bool true]) (by simp [results, Try.results93, go_sem, valV, z0, z1, z2]) rfl ⟨rfl, ?_⟩
        exact below_set3 HB1.out (Nat.le_refl _)

end Go.Proofs.Ytcgjppacnhmjlaa
