/- The document's own Encode. -/
import Derived.Test.YtcgjppacnhmjlaaDoorTupS
set_option linter.unusedVariables false
set_option linter.unusedSimpArgs false
namespace Go.Proofs.YtcgjppacnhmjlaaDoor
open Go.RowKit Go.Shelf
attribute [local go_sem ↓] Go.wp_at_zero Go.wp_at_succ

set_option maxRecDepth 100000 in
set_option maxHeartbeats 2000000 in
theorem refEncode_any {w : World} {x y : Value} {ks : List Int} {vs : List ValD} (hx : IntsAt w x ks) (hy : ValsAt w y vs) (hl : ks.length ≤ 9223372036854775807) (hlv : vs.length ≤ 9223372036854775807) (hvs : ∀ u ∈ vs, ValOk u) (hsz : ∀ u ∈ vs, u.s.length < 4294967281) (htot : (encAll ks vs).length ≤ 140737488355328) :
    Calls Tryd.prog 16 #[x, y] w fun e w' => Encoded ks vs e ∧ Below w.heap.size w w' := by
  have HI : Hid (Calls Tryd.prog 31 #[x] w fun e w' => e = .returned (.bool (decide (IsSch ks))) ∧ w' = w) := refSchema_any hx hl
  by_cases hk : IsSch ks
  · rw [decide_eq_true hk] at HI
    obtain ⟨ao, kb, p, cap, rfl, hcap, hc⟩ := hx
    obtain ⟨ao2, kb2, p2, cap2, rfl, hcap2, hc2⟩ := hy
    have HX : Hid (∀ w1, Below w.heap.size w w1 → ∀ (i : Nat) k, ks[i]? = some k → ao = some ⟨kb, p, none⟩ ∧ w1.cell? ⟨kb, p + i, none⟩ = some (.int .i64 k)) := fun w1 hb i k hk => ⟨(hc i k hk).1, cell_later hb (hc i k hk).2⟩
    have HV : Hid (∀ w1, Below w.heap.size w w1 → ∀ (i : Nat) u, vs[i]? = some u → ao2 = some ⟨kb2, p2, none⟩ ∧ w1.cell? ⟨kb2, p2 + i * 3, none⟩ = some (.int .u64 u.u) ∧ w1.cell? ⟨kb2, p2 + i * 3 + 1, none⟩ = some (.int .i64 u.i) ∧ w1.cell? ⟨kb2, p2 + i * 3 + 2, none⟩ = some (.string ⟨u.s.toArray⟩)) := fun w1 hb i k hk => ⟨(hc2 i k hk).1, cell_later hb (hc2 i k hk).2.1, cell_later hb (hc2 i k hk).2.2.1, cell_later hb (hc2 i k hk).2.2.2⟩
    have hn6 := hk.1
    have HK : Hid (∀ (i : Nat) k, ks[i]? = some k → 1 ≤ k ∧ k ≤ 9) := fun i k hk' => hk.all (List.mem_of_getElem? hk')
    have HO : Hid (∀ (i : Nat) u, vs[i]? = some u → ValOk u ∧ u.s.length < 4294967281) := fun i u hu => ⟨hvs u (List.mem_of_getElem? hu), hsz u (List.mem_of_getElem? hu)⟩
    have HKS : Hid (IsSch ks) := hk
    clear hc hc2 hk hvs hsz
    by_cases hle : vs.length = ks.length
    · have HL : Hid (vs.length = ks.length) := hle
      rw [hle] at hcap2 hlv ⊢
      clear hle
      go_enter Tryd.func16, Tryd.ntmps16
      go_wp2_with ((go_at_call 31; refine HI.out.mono ?_; rintro e w1 ⟨rfl, rfl⟩))
      go_loopg [7, 8, 9, 10] ks.length (fun gk s7 s8 s9 s10 wr => ∃ (i : Nat) (a : ByteArray), s8 = .int .i64 i ∧ i ≤ ks.length ∧ gk = ks.length - i ∧ s7 = .string a ∧ Hid (a = ⟨(encAll (ks.take i) (vs.take i)).toArray⟩) ∧ Hid (Below w1.heap.size w1 wr) ∧ Hid (∀ (j : Nat) k u, j < i → ks[j]? = some k → vs[j]? = some u → FitV k u))
      case atStart => exact ⟨0, ⟨#[]⟩, rfl, by omega, rfl, rfl, (by simp [encAll] : (⟨#[]⟩ : ByteArray) = ⟨(encAll (ks.take 0) (vs.take 0)).toArray⟩), Below.refl _ _, fun j k u h => by omega⟩
      case round =>
        obtain ⟨i, a, rfl, hi, rfl, rfl, HA, HB, HF⟩ := hrel
        by_cases hlt : i < ks.length
        · obtain ⟨k, hk⟩ : ∃ k, ks[i]? = some k := ⟨_, List.getElem?_eq_getElem hlt⟩
          obtain ⟨u, hu⟩ : ∃ u, vs[i]? = some u := ⟨_, List.getElem?_eq_getElem (by rw [HL.out]; exact hlt)⟩
          obtain ⟨rfl, c0⟩ := HX.out _ HB.out i k hk
          obtain ⟨rfl, d0, d1, d2⟩ := HV.out _ HB.out i u hu
          have hltI : (i : Int) < (ks.length : Int) := by omega
          have HKU : Hid (ks[i]? = some k ∧ vs[i]? = some u) := ⟨hk, hu⟩
          have hp2 := encAll_part ks vs (i + 1)
          have hsn := encAll_snoc ks vs i k u hk hu
          rw [hsn, List.length_append] at hp2
          have hasz : a.size = (encAll (ks.take i) (vs.take i)).length := by rw [HA.out]; show (encAll (ks.take i) (vs.take i)).toArray.size = _; simp
          have HC : Hid (∀ w1', Below wr.heap.size wr w1' → Calls Tryd.prog 32 #[.int .i64 k, .agg #[.int .u64 u.u, .int .i64 u.i, .string ⟨u.s.toArray⟩]] w1' fun e w' => CodeR k u e ∧ Below w1'.heap.size w1' w') := fun w1' hb' => refCode_any k u w1' (HK.out i k hk) (HO.out i u hu).1 (by have := (HO.out i u hu).2; omega)
          have HS1 : Hid (encAll (ks.take (i + 1)) (vs.take (i + 1)) = encAll (ks.take i) (vs.take i) ++ encV k u) := hsn
          clear hk hu hsn
          have HCell : Hid (∀ w2, Below wr.heap.size wr w2 → w2.cell? ⟨kb, p + i, none⟩ = some (.int .i64 k) ∧ w2.cell? ⟨kb2, p2 + i * 3, none⟩ = some (.int .u64 u.u) ∧ w2.cell? ⟨kb2, p2 + i * 3 + 1, none⟩ = some (.int .i64 u.i) ∧ w2.cell? ⟨kb2, p2 + i * 3 + 2, none⟩ = some (.string ⟨u.s.toArray⟩)) := fun w2 hb => ⟨cell_later hb c0, cell_later hb d0, cell_later hb d1, cell_later hb d2⟩
          by_cases hf : FitV k u
          · have HC2 : Hid (Calls Tryd.prog 32 #[.int .i64 k, .agg #[.int .u64 u.u, .int .i64 u.i, .string ⟨u.s.toArray⟩]] wr.drew fun e w' => e = .returned (.tuple #[.string ⟨(encV k u).toArray⟩, .bool true]) ∧ Below wr.heap.size wr w') := (HC.out _ ((Below.refl _ _).drew)).mono fun e w' he => ⟨(by
              obtain ⟨c, b, h1, h2, h3⟩ := he.1
              rw [h1, h3 hf, h2.mpr hf]), ((Below.refl _ _).drew).trans he.2⟩
            have HFt : Hid (FitV k u) := hf
            obtain ⟨ev, hev⟩ : ∃ ev : ByteArray, ev = ⟨(encV k u).toArray⟩ := ⟨_, rfl⟩
            have hevs : ev.size = (encV k u).length := by rw [hev]; show (encV k u).toArray.size = _; simp
            rw [← hev] at HC2
            have HEV : Hid (ev = ⟨(encV k u).toArray⟩) := hev
            have hsum : a.size + ev.size ≤ 9223372036854775807 := by omega
            clear hf hev HC hasz hevs
            go_wp2_with fail
            go_region_held3 (fun w' => w'.cell? ⟨kb, p + i, none⟩ = some (.int .i64 k) ∧ w'.cell? ⟨kb2, p2 + i * 3, none⟩ = some (.int .u64 u.u) ∧ w'.cell? ⟨kb2, p2 + i * 3 + 1, none⟩ = some (.int .i64 u.i) ∧ w'.cell? ⟨kb2, p2 + i * 3 + 2, none⟩ = some (.string ⟨u.s.toArray⟩)) (first | exact ⟨c0, d0, d1, d2⟩ | exact HCell.out _ hb2 | go_keep) ((go_at_call 32; refine HC2.out.mono ?_; rintro e w2 ⟨rfl, hb2⟩))
            go_wp2_with fail
            go_roundg (ks.length - (i + 1))
            case measure => omega
            case rel =>
              refine ⟨i + 1, _, by go_num, by omega, rfl, rfl, ?_, HB.out.trans (hb2.mono HB.out.size), fun j k' u' hj h1 h2 => ?_⟩
              · show _ = (⟨(encAll (ks.take (i + 1)) (vs.take (i + 1))).toArray⟩ : ByteArray)
                rw [HA.out, HEV.out, HS1.out]
                exact str_cat _ _
              · by_cases e : j = i
                · subst e
                  rw [HKU.out.1] at h1; rw [HKU.out.2] at h2
                  cases h1; cases h2; exact HFt.out
                · exact HF.out j k' u' (by omega) h1 h2
          · have HC2 : Hid (Calls Tryd.prog 32 #[.int .i64 k, .agg #[.int .u64 u.u, .int .i64 u.i, .string ⟨u.s.toArray⟩]] wr.drew fun e w' => (∃ c : ByteArray, e = .returned (.tuple #[.string c, .bool false])) ∧ Below wr.heap.size wr w') := (HC.out _ ((Below.refl _ _).drew)).mono fun e w' he => ⟨(by
              obtain ⟨c, b, h1, h2, h3⟩ := he.1
              cases b with
              | false => exact ⟨_, h1⟩
              | true => exact absurd (h2.mp rfl) hf), ((Below.refl _ _).drew).trans he.2⟩
            have HFn : Hid (¬ FitAll ks vs) := fun h => hf (((fitAll_iff ks vs).mp h).2 i k u HKU.out.1 HKU.out.2)
            clear hf HC hasz
            go_wp2_with fail
            go_region_held3 (fun w' => w'.cell? ⟨kb, p + i, none⟩ = some (.int .i64 k) ∧ w'.cell? ⟨kb2, p2 + i * 3, none⟩ = some (.int .u64 u.u) ∧ w'.cell? ⟨kb2, p2 + i * 3 + 1, none⟩ = some (.int .i64 u.i) ∧ w'.cell? ⟨kb2, p2 + i * 3 + 2, none⟩ = some (.string ⟨u.s.toArray⟩)) (first | exact ⟨c0, d0, d1, d2⟩ | exact HCell.out _ hb2 | go_keep) ((go_at_call 32; refine HC2.out.mono ?_; rintro e w2 ⟨⟨c, rfl⟩, hb2⟩))
            go_wp2_with fail
            go_ret2
            exact ⟨.inr (.inl ⟨HKS.out, HFn.out, rfl⟩), HB.out.trans (hb2.mono HB.out.size)⟩
        · have hltI : ¬ (i : Int) < (ks.length : Int) := by omega
          go_wp2_with fail
          go_ret2
          refine ⟨.inr (.inr ⟨HKS.out, (fitAll_iff ks vs).mpr ⟨HL.out, fun j k u h1 h2 => HF.out j k u (by have := (List.getElem?_eq_some_iff.mp h1).1; omega) h1 h2⟩, ?_⟩), HB.out⟩
          rw [HA.out, List.take_of_length_le (by omega), List.take_of_length_le (by have := HL.out; omega)]
          rfl
    · have hlI : ¬ (vs.length : Int) = (ks.length : Int) := by omega
      have HFn : Hid (¬ FitAll ks vs) := fun h => hle ((fitAll_iff ks vs).mp h).1
      go_enter Tryd.func16, Tryd.ntmps16
      go_wp2_with ((go_at_call 31; refine HI.out.mono ?_; rintro e w1 ⟨rfl, rfl⟩))
      go_ret2
      exact ⟨.inr (.inl ⟨HKS.out, HFn.out, rfl⟩), Below.refl _ _⟩
  · rw [decide_eq_false hk] at HI
    have HK : Hid (¬ IsSch ks) := hk
    clear hk hx hy hvs hsz
    go_enter Tryd.func16, Tryd.ntmps16
    go_wp2_with ((go_at_call 31; refine HI.out.mono ?_; rintro e w1 ⟨rfl, rfl⟩))
    go_ret2
    exact ⟨.inl ⟨HK.out, rfl⟩, Below.refl _ _⟩

end Go.Proofs.YtcgjppacnhmjlaaDoor
