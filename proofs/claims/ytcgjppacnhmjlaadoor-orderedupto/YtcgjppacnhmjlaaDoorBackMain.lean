/- Back: what can be read is written as it was. -/
import Derived.Test.YtcgjppacnhmjlaaDoorAwakeD
set_option linter.unusedVariables false
set_option linter.unusedSimpArgs false
namespace Go.Proofs.YtcgjppacnhmjlaaDoor
open Go.RowKit Go.Shelf
attribute [local go_sem ↓] Go.wp_at_zero Go.wp_at_succ

theorem valOk_fit {k : Int} {u : ValD} (h : FitV k u) : ValOk u := by
  unfold FitV at h
  unfold ValOk
  split at h
  · rw [h.1, h.2]; decide
  · rcases widthOf_cases k with hw | hw | hw | hw <;> rw [hw] at h <;> split at h <;> simp only [Nat.reduceMul, Nat.reduceSub, Int.reducePow, Nat.reducePow] at h <;> omega
theorem valOk_all {ks : List Int} {vs : List ValD} (h : FitAll ks vs) : ∀ u ∈ vs, ValOk u := by
  obtain ⟨h1, h2⟩ := (fitAll_iff ks vs).mp h
  intro u hu
  obtain ⟨i, hi⟩ := List.getElem?_of_mem hu
  have hlt := (List.getElem?_eq_some_iff.mp hi).1
  exact valOk_fit (h2 i _ u (List.getElem?_eq_getElem (by omega)) hi)
theorem rdAll_short : ∀ {ks : List Int} {t : Bs} {vs : List ValD}, rdAll ks t = some vs → ∀ u ∈ vs, u.s.length ≤ t.length
  | [], t, vs, h => by
    rw [rdAll] at h
    split at h
    · cases h; intro u hu; cases hu
    · cases h
  | k :: ks, t, vs, h => by
    rw [rdAll] at h
    split at h
    · cases h
    · rename_i v r hr
      obtain ⟨us, hu, rfl⟩ := Option.map_eq_some_iff.mp h
      have h1 := rdV_len hr
      have h2 := rdAll_short hu
      intro u hx
      rcases List.mem_cons.mp hx with rfl | hx
      · omega
      · have := h2 u hx; omega
theorem flatV_get : ∀ (vs : List ValD) (i : Nat) (u : ValD), vs[i]? = some u → (flatV vs)[i * 3]? = some (.int .u64 u.u) ∧ (flatV vs)[i * 3 + 1]? = some (.int .i64 u.i) ∧ (flatV vs)[i * 3 + 2]? = some (.string ⟨u.s.toArray⟩)
  | [], i, u, h => by simp at h
  | v :: vs, 0, u, h => by simp at h; subst h; simp [flatV, cellsV]
  | v :: vs, i + 1, u, h => by
    have := flatV_get vs i u (by simpa using h)
    have e1 : (i + 1) * 3 = i * 3 + 1 + 1 + 1 := by omega
    rw [e1]
    simpa [flatV, cellsV] using this
theorem RowV.vals {w : World} {g cap : Nat} {vs : List ValD} (h : RowV w (.slice (some ⟨g, 0, none⟩) vs.length cap) vs) (hc : vs.length ≤ cap) : ValsAt w (.slice (some ⟨g, 0, none⟩) vs.length cap) vs := by
  refine ⟨_, g, 0, cap, rfl, hc, fun i u hu => ?_⟩
  obtain ⟨a, b, c⟩ := flatV_get vs i u hu
  refine ⟨rfl, ?_, ?_, ?_⟩
  · have := rowCells h a; simpa using this
  · have := rowCells h b; simpa using this
  · have := rowCells h c; simpa using this

set_option maxRecDepth 100000 in
set_option maxHeartbeats 1000000 in
theorem back_any {w : World} {x : Value} {ks : List Int} {s : ByteArray} {m : Int} (hx : IntsAt w x ks) (hl : ks.length ≤ 9223372036854775807) (hs : s.size ≤ 4000000000) (hm : w.cell? ⟨0, 0, none⟩ = some (.int .i64 m)) :
    Calls Tryd.prog 5 #[x, .string s] w fun e w' => e = .returned (.bool true) ∧ Below w.heap.size w w' := by
  have HA : Hid (Calls Tryd.prog 8 #[] w fun e w' => e = .returned (.bool true) ∧ Below w.heap.size w w') := awake_any w
  have HD : Hid (∀ w1, Below w.heap.size w w1 → Calls Tryd.prog 11 #[x, .string s] w1 fun e w' => ((∃ c : Int, c ≠ 0 ∧ e = .returned (.tuple #[.slice none 0 0, .int .i64 c])) ∨ ∃ v, Hid (Calls Tryd.prog 6 #[x, v] w' fun e w2 => e = .returned (.tuple #[.string s, .int .i64 0]) ∧ Below w'.heap.size w' w2) ∧ e = .returned (.tuple #[v, .int .i64 0])) ∧ Below w.heap.size w w') := fun w1 hb => by
    refine (decode_any (hx.on hb) hl (by omega)).mono ?_
    rintro e w' ⟨h1, h2⟩
    have hb2 := hb.trans (h2.mono hb.size)
    refine ⟨?_, hb2⟩
    rcases h1 with ⟨_, h1⟩ | ⟨_, _, h1⟩ | ⟨vs, h3, h4, h5, h6⟩
    · exact .inl ⟨3, by decide, h1⟩
    · exact .inl ⟨5, by decide, h1⟩
    · refine .inr ⟨_, ?_, h5⟩
      obtain ⟨hf, ht⟩ := rdAll_back h4
      have hsh := rdAll_short h4
      have hsz : s.data.toList.length = s.size := by simp
      have hlv := rdAll_len h4
      have h6' := h3.1
      refine (encode_any (hx.on hb2) (RowV.vals h6 (Nat.le_refl _)) hl (by omega) (valOk_all hf) (cell_later hb2 hm) (fun u hu => by have := hsh u hu; omega) (by rw [← ht]; omega)).mono ?_
      rintro e2 w2 ⟨q1, q2⟩
      refine ⟨?_, q2⟩
      rcases q1 with ⟨q1, _⟩ | ⟨_, q1, _⟩ | ⟨_, _, q1⟩
      · exact absurd h3 q1
      · exact absurd hf q1
      · rw [q1, ← ht]
  clear hx hm
  go_enter Tryd.func5, Tryd.ntmps5
  go_wp2_with (first
    | (go_at_call 8; refine HA.out.mono ?_; rintro e w1 ⟨rfl, hb1⟩)
    | (go_at_call 11; refine (HD.out _ hb1).mono ?_; rintro e w2 ⟨⟨c, hc, rfl⟩ | ⟨v, HE, rfl⟩, hb2⟩)
    | (go_at_call 6; refine HE.out.mono ?_; rintro e w3 ⟨rfl, hb3⟩))
  all_goals go_ret
  · exact ⟨rfl, hb2⟩
  · exact ⟨rfl, hb2.trans (hb3.mono hb2.size)⟩

end Go.Proofs.YtcgjppacnhmjlaaDoor
