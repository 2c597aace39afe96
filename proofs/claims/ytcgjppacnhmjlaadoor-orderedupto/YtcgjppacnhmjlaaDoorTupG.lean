/- Writing: IsTuple, Code, Encode. -/
import Derived.Test.YtcgjppacnhmjlaaDoorTupF
set_option linter.unusedVariables false
set_option linter.unusedSimpArgs false
namespace Go.Proofs.YtcgjppacnhmjlaaDoor
open Go.RowKit Go.Shelf
attribute [local go_sem ↓] Go.wp_at_zero Go.wp_at_succ

/-- A list of values as it lies in memory. -/
def ValsAt (w : World) (v : Value) (vs : List ValD) : Prop := ∃ ao kb p cap, v = .slice ao vs.length cap ∧ vs.length ≤ cap ∧ ∀ (i : Nat) u, vs[i]? = some u → ao = some ⟨kb, p, none⟩ ∧ w.cell? ⟨kb, p + i * 3, none⟩ = some (.int .u64 u.u) ∧ w.cell? ⟨kb, p + i * 3 + 1, none⟩ = some (.int .i64 u.i) ∧ w.cell? ⟨kb, p + i * 3 + 2, none⟩ = some (.string ⟨u.s.toArray⟩)
theorem ValsAt.on {w w' : World} {v : Value} {vs : List ValD} (h : ValsAt w v vs) (hb : Below w.heap.size w w') : ValsAt w' v vs := by
  obtain ⟨ao, kb, p, cap, h1, hc, h2⟩ := h
  exact ⟨ao, kb, p, cap, h1, hc, fun i k hk => ⟨(h2 i k hk).1, cell_later hb (h2 i k hk).2.1, cell_later hb (h2 i k hk).2.2.1, cell_later hb (h2 i k hk).2.2.2⟩⟩
theorem fitAll_iff : ∀ (ks : List Int) (vs : List ValD), FitAll ks vs ↔ vs.length = ks.length ∧ ∀ (i : Nat) k u, ks[i]? = some k → vs[i]? = some u → FitV k u
  | [], [] => by simp [FitAll]
  | [], v :: vs => by simp [FitAll]
  | k :: ks, [] => by simp [FitAll]
  | k :: ks, v :: vs => by
    rw [FitAll, fitAll_iff ks vs]
    constructor
    · rintro ⟨h1, h2, h3⟩
      refine ⟨by simp [h2], fun i k' u h4 h5 => ?_⟩
      cases i with
      | zero => simp at h4 h5; subst h4; subst h5; exact h1
      | succ i => exact h3 i k' u (by simpa using h4) (by simpa using h5)
    · rintro ⟨h1, h2⟩
      exact ⟨h2 0 k v rfl rfl, by simpa using h1, fun i k' u h4 h5 => h2 (i + 1) k' u (by simpa using h4) (by simpa using h5)⟩
theorem encAll_snoc : ∀ (ks : List Int) (vs : List ValD) (i : Nat) (k : Int) (u : ValD), ks[i]? = some k → vs[i]? = some u → encAll (ks.take (i + 1)) (vs.take (i + 1)) = encAll (ks.take i) (vs.take i) ++ encV k u
  | [], vs, i, k, u, h, _ => by simp at h
  | _ :: _, [], i, k, u, _, h => by simp at h
  | k' :: ks, v :: vs, 0, k, u, h1, h2 => by simp at h1 h2; subst h1; subst h2; simp [encAll]
  | k' :: ks, v :: vs, i + 1, k, u, h1, h2 => by
    have := encAll_snoc ks vs i k u (by simpa using h1) (by simpa using h2)
    simp only [List.take_succ_cons, encAll, this, List.append_assoc]
theorem encAll_part : ∀ (ks : List Int) (vs : List ValD) (i : Nat), (encAll (ks.take i) (vs.take i)).length ≤ (encAll ks vs).length
  | [], vs, i => by simp [encAll]
  | _ :: _, [], i => by cases i <;> simp [encAll]
  | k :: ks, v :: vs, 0 => by simp [encAll]
  | k :: ks, v :: vs, i + 1 => by
    have := encAll_part ks vs i
    simp [encAll]
    omega

/-- What IsTuple answers. -/
def TupR (ks : List Int) (vs : List ValD) (e : Ending) : Prop := ∃ b, e = .returned (.bool b) ∧ (b = true ↔ FitAll ks vs)
set_option maxRecDepth 100000 in
set_option maxHeartbeats 2000000 in
theorem isTuple_any {w : World} {x y : Value} {ks : List Int} {vs : List ValD} (hx : IntsAt w x ks) (hy : ValsAt w y vs) (hks : IsSch ks) (hvs : ∀ u ∈ vs, ValOk u) (hlv : vs.length ≤ 9223372036854775807) :
    Calls Tryd.prog 13 #[x, y] w fun e w' => TupR ks vs e ∧ Below w.heap.size w w' := by
  obtain ⟨ao, kb, p, cap, rfl, hcap, hc⟩ := hx
  obtain ⟨ao2, kb2, p2, cap2, rfl, hcap2, hc2⟩ := hy
  have HI : Hid (∀ w1, Below w.heap.size w w1 → ∀ (i : Nat) k, ks[i]? = some k → ao = some ⟨kb, p, none⟩ ∧ w1.cell? ⟨kb, p + i, none⟩ = some (.int .i64 k)) := fun w1 hb i k hk => ⟨(hc i k hk).1, cell_later hb (hc i k hk).2⟩
  have HV : Hid (∀ w1, Below w.heap.size w w1 → ∀ (i : Nat) u, vs[i]? = some u → ao2 = some ⟨kb2, p2, none⟩ ∧ w1.cell? ⟨kb2, p2 + i * 3, none⟩ = some (.int .u64 u.u) ∧ w1.cell? ⟨kb2, p2 + i * 3 + 1, none⟩ = some (.int .i64 u.i) ∧ w1.cell? ⟨kb2, p2 + i * 3 + 2, none⟩ = some (.string ⟨u.s.toArray⟩)) := fun w1 hb i k hk => ⟨(hc2 i k hk).1, cell_later hb (hc2 i k hk).2.1, cell_later hb (hc2 i k hk).2.2.1, cell_later hb (hc2 i k hk).2.2.2⟩
  have hn6 := hks.1
  have HK : Hid (∀ (i : Nat) k, ks[i]? = some k → 1 ≤ k ∧ k ≤ 9) := fun i k hk => hks.all (List.mem_of_getElem? hk)
  have HO : Hid (∀ (i : Nat) u, vs[i]? = some u → ValOk u) := fun i u hu => hvs u (List.mem_of_getElem? hu)
  clear hc hc2 hks hvs
  by_cases hl : vs.length = ks.length
  · have hlI : (vs.length : Int) = (ks.length : Int) := by omega
    have HL : Hid (vs.length = ks.length) := hl
    rw [hl] at hcap2 hlv ⊢
    clear hl hlI
    go_enter Tryd.func13, Tryd.ntmps13
    go_wp2
    go_loopg [5, 6, 14] ks.length (fun gk s5 s6 s14 wr => ∃ i : Nat, s14 = .int .i64 i ∧ i ≤ ks.length ∧ gk = ks.length - i ∧ Hid (Below w.heap.size w wr ∧ ∀ (j : Nat) k u, j < i → ks[j]? = some k → vs[j]? = some u → FitV k u))
    case atStart => exact ⟨0, rfl, by omega, rfl, Below.refl _ _, fun j k u h => by omega⟩
    case round =>
      obtain ⟨i, rfl, hi, rfl, HR⟩ := hrel
      by_cases hlt : i < ks.length
      · obtain ⟨k, hk⟩ : ∃ k, ks[i]? = some k := ⟨_, List.getElem?_eq_getElem hlt⟩
        obtain ⟨u, hu⟩ : ∃ u, vs[i]? = some u := ⟨_, List.getElem?_eq_getElem (by rw [HL.out]; exact hlt)⟩
        obtain ⟨rfl, c0⟩ := HI.out _ HR.out.1 i k hk
        obtain ⟨rfl, d0, d1, d2⟩ := HV.out _ HR.out.1 i u hu
        have hltI : (i : Int) < (ks.length : Int) := by omega
        have HF : Hid (Calls Tryd.prog 25 #[.int .i64 k, .agg #[.int .u64 u.u, .int .i64 u.i, .string ⟨u.s.toArray⟩]] wr fun e w' => e = .returned (.bool (decide (FitV k u))) ∧ Below wr.heap.size wr w') := fits_any k u wr (HK.out i k hk) (HO.out i u hu)
        have HKU : Hid (ks[i]? = some k ∧ vs[i]? = some u) := ⟨hk, hu⟩
        clear hk hu
        by_cases hf : FitV k u
        · have HFt : Hid (FitV k u) := hf
          rw [decide_eq_true hf] at HF
          clear hf
          go_wp2_with ((go_at_call 25; refine HF.out.mono ?_; rintro e w2 ⟨rfl, hb2⟩))
          go_roundg (ks.length - (i + 1))
          case measure => omega
          case rel =>
            refine ⟨i + 1, by go_num, by omega, rfl, HR.out.1.trans (hb2.mono HR.out.1.size), fun j k' u' hj h1 h2 => ?_⟩
            by_cases e : j = i
            · subst e
              rw [HKU.out.1] at h1; rw [HKU.out.2] at h2
              cases h1; cases h2; exact HFt.out
            · exact HR.out.2 j k' u' (by omega) h1 h2
        · have HFt : Hid (¬ FitV k u) := hf
          rw [decide_eq_false hf] at HF
          clear hf
          go_wp2_with ((go_at_call 25; refine HF.out.mono ?_; rintro e w2 ⟨rfl, hb2⟩))
          go_ret
          exact ⟨⟨false, rfl, by
            constructor
            · intro h; cases h
            · intro h; exact absurd (((fitAll_iff ks vs).mp h).2 i k u HKU.out.1 HKU.out.2) HFt.out⟩, HR.out.1.trans (hb2.mono HR.out.1.size)⟩
      · have hltI : ¬ (i : Int) < (ks.length : Int) := by omega
        go_wp2
        go_ret
        refine ⟨⟨true, rfl, ?_⟩, HR.out.1⟩
        constructor
        · intro _
          exact (fitAll_iff ks vs).mpr ⟨HL.out, fun j k u h1 h2 => HR.out.2 j k u (by have := (List.getElem?_eq_some_iff.mp h1).1; omega) h1 h2⟩
        · intro _; rfl
  · have hlI : ¬ (vs.length : Int) = (ks.length : Int) := by omega
    go_enter Tryd.func13, Tryd.ntmps13
    go_wp2
    go_ret
    refine ⟨⟨false, rfl, ?_⟩, Below.refl _ _⟩
    constructor
    · intro h; cases h
    · intro h; exact absurd ((fitAll_iff ks vs).mp h).1 (by omega)

theorem numOf_fit {k : Int} {u : ValD} (h9 : ¬ k = 9) (h5 : 5 ≤ k) (h : FitV k u) (hu : ValOk u) : ((u.i + 2 ^ (8 * widthOf k - 1)) % 18446744073709551616 : Int) = (numOf k u : Nat) ∧ numOf k u < 18446744073709551616 := by
  unfold FitV at h
  rw [if_neg h9, if_pos h5] at h
  obtain ⟨_, _, h1, h2⟩ := h
  unfold numOf
  rw [if_pos h5]
  rcases widthOf_cases k with hw | hw | hw | hw <;> rw [hw] at h1 h2 ⊢ <;> simp only [Nat.reduceMul, Nat.reduceSub, Int.reducePow] at h1 h2 ⊢ <;> omega

set_option maxRecDepth 100000 in
set_option maxHeartbeats 2000000 in
theorem code_any {w : World} {x y : Value} {ks : List Int} {vs : List ValD} {m : Int} (hx : IntsAt w x ks) (hy : ValsAt w y vs) (hks : IsSch ks) (hvs : ∀ u ∈ vs, ValOk u) (hfit : FitAll ks vs) (hm : w.cell? ⟨0, 0, none⟩ = some (.int .i64 m)) (hsz : ∀ u ∈ vs, u.s.length < 4294967281) (htot : (encAll ks vs).length + 8 ≤ 140737488355328) :
    Calls Tryd.prog 14 #[x, y] w fun e w' => e = .returned (.string ⟨(encAll ks vs).toArray⟩) ∧ Below w.heap.size w w' := by
  obtain ⟨hl, hfa⟩ := (fitAll_iff ks vs).mp hfit
  obtain ⟨ao, kb, p, cap, rfl, hcap, hc⟩ := hx
  obtain ⟨ao2, kb2, p2, cap2, rfl, hcap2, hc2⟩ := hy
  have HI : Hid (∀ w1, Below w.heap.size w w1 → ∀ (i : Nat) k, ks[i]? = some k → ao = some ⟨kb, p, none⟩ ∧ w1.cell? ⟨kb, p + i, none⟩ = some (.int .i64 k)) := fun w1 hb i k hk => ⟨(hc i k hk).1, cell_later hb (hc i k hk).2⟩
  have HV : Hid (∀ w1, Below w.heap.size w w1 → ∀ (i : Nat) u, vs[i]? = some u → ao2 = some ⟨kb2, p2, none⟩ ∧ w1.cell? ⟨kb2, p2 + i * 3, none⟩ = some (.int .u64 u.u) ∧ w1.cell? ⟨kb2, p2 + i * 3 + 1, none⟩ = some (.int .i64 u.i) ∧ w1.cell? ⟨kb2, p2 + i * 3 + 2, none⟩ = some (.string ⟨u.s.toArray⟩)) := fun w1 hb i k hk => ⟨(hc2 i k hk).1, cell_later hb (hc2 i k hk).2.1, cell_later hb (hc2 i k hk).2.2.1, cell_later hb (hc2 i k hk).2.2.2⟩
  have hn6 := hks.1
  have HK : Hid (∀ (i : Nat) k, ks[i]? = some k → 1 ≤ k ∧ k ≤ 9) := fun i k hk => hks.all (List.mem_of_getElem? hk)
  have HO : Hid (∀ (i : Nat) u, vs[i]? = some u → ValOk u ∧ u.s.length < 4294967281) := fun i u hu => ⟨hvs u (List.mem_of_getElem? hu), hsz u (List.mem_of_getElem? hu)⟩
  have HF : Hid (∀ (i : Nat) k u, ks[i]? = some k → vs[i]? = some u → FitV k u) := hfa
  have hw0 : 0 < w.heap.size := World.block_lt_of_cell? _ _ hm
  have HM : Hid (w.cell? ⟨0, 0, none⟩ = some (.int .i64 m)) := hm
  have HL : Hid (vs.length = ks.length) := hl
  rw [hl] at hcap2 ⊢
  clear hc hc2 hks hvs hfit hfa hm hsz hl
  have HB0 : Hid (Bld w.heap.size w.heap.size [] (w.alloc (.cells #[.pointer none, .slice none 0 0] 63)) ∧ Below w.heap.size w (w.alloc (.cells #[.pointer none, .slice none 0 0] 63))) := ⟨bld_new w, belowA w _⟩
  go_enter Tryd.func14, Tryd.ntmps14
  go_wp2
  go_loopg [6, 7, 10, 22, 31] ks.length (fun gk s6 s7 s10 s22 s31 wr => ∃ i : Nat, s10 = .int .i64 i ∧ i ≤ ks.length ∧ gk = ks.length - i ∧ Hid (Bld w.heap.size w.heap.size (encAll (ks.take i) (vs.take i)) wr ∧ Below w.heap.size w wr))
  case atStart => exact ⟨0, rfl, by omega, rfl, by simpa [encAll] using HB0.out.1, HB0.out.2⟩
  case round =>
    obtain ⟨i, rfl, hi, rfl, HR⟩ := hrel
    clear HB0
    by_cases hlt : i < ks.length
    · obtain ⟨k, hk⟩ : ∃ k, ks[i]? = some k := ⟨_, List.getElem?_eq_getElem hlt⟩
      obtain ⟨u, hu⟩ : ∃ u, vs[i]? = some u := ⟨_, List.getElem?_eq_getElem (by rw [HL.out]; exact hlt)⟩
      obtain ⟨rfl, c0⟩ := HI.out _ HR.out.2 i k hk
      obtain ⟨rfl, d0, d1, d2⟩ := HV.out _ HR.out.2 i u hu
      have hltI : (i : Int) < (ks.length : Int) := by omega
      have hfit := HF.out i k u hk hu
      obtain ⟨huo, hus⟩ := HO.out i u hu
      obtain ⟨hk1, hk9⟩ := HK.out i k hk
      have hsn := encAll_snoc ks vs i k u hk hu
      have hp1 := encAll_part ks vs i
      have hp2 := encAll_part ks vs (i + 1)
      have HNext : Hid (∀ w2, Bld w.heap.size w.heap.size (encAll (ks.take i) (vs.take i) ++ encV k u) w2 → Below w.heap.size wr w2 → Bld w.heap.size w.heap.size (encAll (ks.take (i + 1)) (vs.take (i + 1))) w2 ∧ Below w.heap.size w w2) := fun w2 h1 h2 => ⟨by rw [hsn]; exact h1, HR.out.2.trans h2⟩
      have hBw := HR.out.2.size
      rw [hsn] at hp2
      clear hsn hk hu
      by_cases h9 : k = 9
      · subst h9
        have he : encV 9 u = esc u.s ++ [0, 0] := by simp [encV]
        rw [he] at HNext hp2
        simp only [List.length_append, List.length_cons, List.length_nil] at hp2
        have HT : Hid (Calls Tryd.prog 26 #[.pointer (some ⟨w.heap.size, 0, none⟩), .string ⟨u.s.toArray⟩] wr fun e w' => e = .returned (.tuple #[]) ∧ Bld w.heap.size w.heap.size (encAll (ks.take i) (vs.take i) ++ (esc u.s ++ [0, 0])) w' ∧ Below w.heap.size wr w') := by
          have := writeText_any w.heap.size w.heap.size (encAll (ks.take i) (vs.take i)) ⟨u.s.toArray⟩ wr m HR.out.1 (below0 HR.out.2 hw0 HM.out) (by show u.s.toArray.size < _; simpa using hus) (by simp; omega) hw0 hBw
          show Calls _ _ _ _ _
          simpa using this
        clear he hfit
        go_wp2_with ((go_at_call 26; refine HT.out.mono ?_; rintro e w2 ⟨rfl, hB2, hb2⟩; have HN2 : Hid (Bld w.heap.size w.heap.size (encAll (ks.take (i + 1)) (vs.take (i + 1))) w2 ∧ Below w.heap.size w w2) := HNext.out _ hB2 hb2; clear hB2 hb2))
        go_roundg (ks.length - (i + 1))
        case measure => omega
        case rel => exact ⟨i + 1, by go_num, by omega, rfl, HN2.out⟩
      · have he : encV k u = dg (widthOf k) (numOf k u) := by simp [encV, h9]
        rw [he] at HNext
        have hSg := fun w1 => signed_any k w1 hk1 (by omega)
        by_cases h5 : 5 ≤ k
        · rw [decide_eq_true h5] at hSg
          obtain ⟨hn1, hn2⟩ := numOf_fit h9 h5 hfit huo
          have HRa : Hid (∀ w1, Calls Tryd.prog 29 #[.int .i64 k, .int .i64 u.i] w1 fun e w' => e = .returned (.int .u64 (numOf k u : Nat)) ∧ w' = w1) := fun w1 => by
            have := raised_any k u.i w1 huo.2
            rw [hn1] at this
            exact this
          have HWn : Hid (Calls Tryd.prog 28 #[.pointer (some ⟨w.heap.size, 0, none⟩), .int .i64 k, .int .u64 (numOf k u : Nat)] wr fun e w' => e = .returned (.tuple #[]) ∧ Bld w.heap.size w.heap.size (encAll (ks.take i) (vs.take i) ++ dg (widthOf k) (numOf k u)) w' ∧ Below w.heap.size wr w') := writeNumber_any _ _ _ k _ wr HR.out.1 hn2 (by omega) hBw
          clear he hfit hn1 hp2
          generalize numOf k u = nn at *
          go_wp2_with (first
            | (go_at_call 27; refine (hSg _).mono ?_; rintro e w1 ⟨rfl, hw1⟩; subst hw1)
            | (go_at_call 29; refine (HRa.out _).mono ?_; rintro e w1 ⟨rfl, hw1⟩; subst hw1)
            | (go_at_call 28; refine HWn.out.mono ?_; rintro e w2 ⟨rfl, hB2, hb2⟩; have HN2 : Hid (Bld w.heap.size w.heap.size (encAll (ks.take (i + 1)) (vs.take (i + 1))) w2 ∧ Below w.heap.size w w2) := HNext.out _ hB2 hb2; clear hB2 hb2))
          go_roundg (ks.length - (i + 1))
          case measure => omega
          case rel => exact ⟨i + 1, by go_num, by omega, rfl, HN2.out⟩
        · rw [decide_eq_false h5] at hSg
          have hnu : numOf k u = u.u := by simp [numOf, h5]
          rw [hnu] at HNext
          have HWn : Hid (Calls Tryd.prog 28 #[.pointer (some ⟨w.heap.size, 0, none⟩), .int .i64 k, .int .u64 (u.u : Nat)] wr fun e w' => e = .returned (.tuple #[]) ∧ Bld w.heap.size w.heap.size (encAll (ks.take i) (vs.take i) ++ dg (widthOf k) u.u) w' ∧ Below w.heap.size wr w') := writeNumber_any _ _ _ k _ wr HR.out.1 huo.1 (by omega) hBw
          clear he hfit hnu hp2
          go_wp2_with (first
            | (go_at_call 27; refine (hSg _).mono ?_; rintro e w1 ⟨rfl, hw1⟩; subst hw1)
            | (go_at_call 28; refine HWn.out.mono ?_; rintro e w2 ⟨rfl, hB2, hb2⟩; have HN2 : Hid (Bld w.heap.size w.heap.size (encAll (ks.take (i + 1)) (vs.take (i + 1))) w2 ∧ Below w.heap.size w w2) := HNext.out _ hB2 hb2; clear hB2 hb2))
          go_roundg (ks.length - (i + 1))
          case measure => omega
          case rel => exact ⟨i + 1, by go_num, by omega, rfl, HN2.out⟩
    · have hltI : ¬ (i : Int) < (ks.length : Int) := by omega
      have HS : Hid (Calls Tryd.prog 30 #[.pointer (some ⟨w.heap.size, 0, none⟩)] wr fun e w' => e = .returned (.string ⟨(encAll ks vs).toArray⟩) ∧ Below w.heap.size w w') := by
        have h1 := HR.out.1
        rw [List.take_of_length_le (by omega), List.take_of_length_le (by have := HL.out; omega)] at h1
        exact (bString_any _ _ _ wr h1 HR.out.2.size).mono fun e w' he => ⟨he.1, HR.out.2.trans he.2⟩
      go_wp2_with ((go_at_call 30; refine HS.out.mono ?_; rintro e w2 ⟨rfl, hb2⟩))
      go_ret
      exact ⟨rfl, hb2⟩

/-- What Encode answers. -/
def Encoded (ks : List Int) (vs : List ValD) (e : Ending) : Prop := (¬ IsSch ks ∧ e = .returned (.tuple #[.string ⟨#[]⟩, .int .i64 3])) ∨ (IsSch ks ∧ ¬ FitAll ks vs ∧ e = .returned (.tuple #[.string ⟨#[]⟩, .int .i64 4])) ∨ (IsSch ks ∧ FitAll ks vs ∧ e = .returned (.tuple #[.string ⟨(encAll ks vs).toArray⟩, .int .i64 0]))
set_option maxRecDepth 100000 in
set_option maxHeartbeats 1000000 in
theorem encode_any {w : World} {x y : Value} {ks : List Int} {vs : List ValD} {m : Int} (hx : IntsAt w x ks) (hy : ValsAt w y vs) (hl : ks.length ≤ 9223372036854775807) (hlv : vs.length ≤ 9223372036854775807) (hvs : ∀ u ∈ vs, ValOk u) (hm : w.cell? ⟨0, 0, none⟩ = some (.int .i64 m)) (hsz : ∀ u ∈ vs, u.s.length < 4294967281) (htot : (encAll ks vs).length + 8 ≤ 140737488355328) :
    Calls Tryd.prog 6 #[x, y] w fun e w' => Encoded ks vs e ∧ Below w.heap.size w w' := by
  have HI : Hid (Calls Tryd.prog 12 #[x] w fun e w' => e = .returned (.bool (decide (IsSch ks))) ∧ w' = w) := isSchema_any hx hl
  by_cases hk : IsSch ks
  · rw [decide_eq_true hk] at HI
    have HT : Hid (Calls Tryd.prog 13 #[x, y] w fun e w' => TupR ks vs e ∧ Below w.heap.size w w') := isTuple_any hx hy hk hvs hlv
    have HK : Hid (IsSch ks) := hk
    by_cases hf : FitAll ks vs
    · have HF : Hid (FitAll ks vs) := hf
      have HT2 : Hid (Calls Tryd.prog 13 #[x, y] w fun e w' => e = .returned (.bool true) ∧ Below w.heap.size w w') := HT.out.mono fun e w' he => ⟨(by
        obtain ⟨b, h1, h2⟩ := he.1
        rw [h1, h2.mpr hf]), he.2⟩
      have HC : Hid (∀ w1, Below w.heap.size w w1 → Calls Tryd.prog 14 #[x, y] w1 fun e w' => e = .returned (.string ⟨(encAll ks vs).toArray⟩) ∧ Below w.heap.size w w') := fun w1 hb =>
        (code_any (hx.on hb) (hy.on hb) hk hvs hf (cell_later hb hm) hsz htot).mono fun e w' he => ⟨he.1, hb.trans (he.2.mono hb.size)⟩
      clear HT hk hf hx hy hvs hm hsz
      go_enter Tryd.func6, Tryd.ntmps6
      go_wp2_with (first
        | (go_at_call 12; refine HI.out.mono ?_; rintro e w1 ⟨rfl, rfl⟩)
        | (go_at_call 13; refine HT2.out.mono ?_; rintro e w2 ⟨rfl, hb2⟩)
        | (go_at_call 14; refine (HC.out _ hb2).mono ?_; rintro e w3 ⟨rfl, hb3⟩))
      go_ret2
      exact ⟨.inr (.inr ⟨HK.out, HF.out, rfl⟩), hb3⟩
    · have HF : Hid (¬ FitAll ks vs) := hf
      have HT2 : Hid (Calls Tryd.prog 13 #[x, y] w fun e w' => e = .returned (.bool false) ∧ Below w.heap.size w w') := HT.out.mono fun e w' he => ⟨(by
        obtain ⟨b, h1, h2⟩ := he.1
        cases b with
        | false => exact h1
        | true => exact absurd (h2.mp rfl) hf), he.2⟩
      clear HT hk hf hx hy hvs hm hsz
      go_enter Tryd.func6, Tryd.ntmps6
      go_wp2_with (first
        | (go_at_call 12; refine HI.out.mono ?_; rintro e w1 ⟨rfl, rfl⟩)
        | (go_at_call 13; refine HT2.out.mono ?_; rintro e w2 ⟨rfl, hb2⟩))
      go_ret2
      exact ⟨.inr (.inl ⟨HK.out, HF.out, rfl⟩), hb2⟩
  · rw [decide_eq_false hk] at HI
    have HK : Hid (¬ IsSch ks) := hk
    clear hk hx hy hvs hm hsz
    go_enter Tryd.func6, Tryd.ntmps6
    go_wp2_with ((go_at_call 12; refine HI.out.mono ?_; rintro e w1 ⟨rfl, rfl⟩))
    go_ret2
    exact ⟨.inl ⟨HK.out, rfl⟩, Below.refl _ _⟩

end Go.Proofs.YtcgjppacnhmjlaaDoor
