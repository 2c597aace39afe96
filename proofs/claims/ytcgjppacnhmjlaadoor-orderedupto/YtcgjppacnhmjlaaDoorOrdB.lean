/- Ordered: its walk. -/
import Derived.Test.YtcgjppacnhmjlaaDoorOrdS
import Derived.Test.YtcgjppacnhmjlaaDoorValRow
import Derived.Deep.DeepCutAuto
import Derived.Deep.CutBlock
set_option linter.unusedVariables false
set_option linter.unusedSimpArgs false
namespace Go.Proofs.YtcgjppacnhmjlaaDoor
open Go.RowKit Go.Shelf
attribute [local go_sem ↓] Go.wp_at_zero Go.wp_at_succ

theorem IntsAt.cell {w : World} {g n cap : Nat} {K : List Int} (h : IntsAt w (.slice (some ⟨g, 0, none⟩) n cap) K) {i : Nat} {k : Int} (hk : K[i]? = some k) : w.cell? ⟨g, i, none⟩ = some (.int .i64 k) := by
  obtain ⟨ao, kb, p, cap', e, _, hc⟩ := h
  cases e
  obtain ⟨e, hc⟩ := hc i k hk
  cases e
  simpa using hc

set_option maxRecDepth 100000 in
set_option maxHeartbeats 8000000 in
theorem ordered_any {w : World} {x ya yb : Value} {raw : List Int} {va vb : List ValD} {first m : Int} (hx : IntsAt w x raw) (hya : ValsAt w ya va) (hyb : ValsAt w yb vb) (hlr : raw.length ≤ 1048576) (hla : va.length ≤ 1048576) (hlb : vb.length ≤ 1048576)
    (hoa : ∀ u ∈ va, ValOk u ∧ u.s.length ≤ 1048576) (hob : ∀ u ∈ vb, ValOk u ∧ u.s.length ≤ 1048576) (hfirst : -9223372036854775808 ≤ first ∧ first ≤ 9223372036854775807) (hm : w.cell? ⟨0, 0, none⟩ = some (.int .i64 m)) :
    Calls Tryd.prog 4 #[x, ya, yb, .int .i64 first] w fun e w' => e = .returned (.bool true) ∧ Below w.heap.size w w' := by
  obtain ⟨i0, hi0, hz0, hz1, hz2⟩ := info_parts infoI
  have HA : Hid (Calls Tryd.prog 8 #[] w fun e w' => e = .returned (.bool true) ∧ Below w.heap.size w w') := awake_any w
  obtain ⟨ao, kb, p, cap, rfl, hcap, hc⟩ := hx
  have HX : Hid (∀ w1, Below w.heap.size w w1 → ∀ (i : Nat) k, raw[i]? = some k → ao = some ⟨kb, p, none⟩ ∧ w1.cell? ⟨kb, p + i, none⟩ = some (.int .i64 k)) := fun w1 hb i k hk => ⟨(hc i k hk).1, cell_later hb (hc i k hk).2⟩
  clear hc
  obtain ⟨ao1, kb1, p1, cap1, rfl, hcap1, hc1⟩ := hya
  obtain ⟨ao2, kb2, p2, cap2, rfl, hcap2, hc2⟩ := hyb
  obtain ⟨j0, hj0, hy0, hy1, hy2⟩ := info_parts infoV
  have HVa : Hid (∀ w1, Below w.heap.size w w1 → ∀ (i : Nat) u, va[i]? = some u → ao1 = some ⟨kb1, p1, none⟩ ∧ w1.cell? ⟨kb1, p1 + i * 3, none⟩ = some (.int .u64 u.u) ∧ w1.cell? ⟨kb1, p1 + i * 3 + 1, none⟩ = some (.int .i64 u.i) ∧ w1.cell? ⟨kb1, p1 + i * 3 + 2, none⟩ = some (.string ⟨u.s.toArray⟩) ∧ ValOk u ∧ u.s.length ≤ 1048576) := fun w1 hb i u hu => ⟨(hc1 i u hu).1, cell_later hb (hc1 i u hu).2.1, cell_later hb (hc1 i u hu).2.2.1, cell_later hb (hc1 i u hu).2.2.2, hoa u (List.mem_of_getElem? hu)⟩
  have HVb : Hid (∀ w1, Below w.heap.size w w1 → ∀ (i : Nat) u, vb[i]? = some u → ao2 = some ⟨kb2, p2, none⟩ ∧ w1.cell? ⟨kb2, p2 + i * 3, none⟩ = some (.int .u64 u.u) ∧ w1.cell? ⟨kb2, p2 + i * 3 + 1, none⟩ = some (.int .i64 u.i) ∧ w1.cell? ⟨kb2, p2 + i * 3 + 2, none⟩ = some (.string ⟨u.s.toArray⟩) ∧ ValOk u ∧ u.s.length ≤ 1048576) := fun w1 hb i u hu => ⟨(hc2 i u hu).1, cell_later hb (hc2 i u hu).2.1, cell_later hb (hc2 i u hu).2.2.1, cell_later hb (hc2 i u hu).2.2.2, hob u (List.mem_of_getElem? hu)⟩
  have HM : Hid (w.cell? ⟨0, 0, none⟩ = some (.int .i64 m)) := hm
  clear hc1 hc2 hoa hob hm
  go_enter Tryd.func4, Tryd.ntmps4
  go_upto_block 0 with ((go_at_call 8; refine HA.out.mono ?_; rintro e w1 ⟨rfl, hb1⟩))
  go_cut [10, 11, 12] (fun s10 s11 s12 wx => ∃ (K : List Int) (ko : Option Addr) (kc : Nat), s10 = .slice ko K.length kc ∧ K.length ≤ 6 ∧ Hid (Below w.heap.size w wx ∧ KRow w.heap.size wx (.slice ko K.length kc) K ∧ ∀ k ∈ K, 1 ≤ k ∧ k ≤ 9))
  case first =>
    as_aux_lemma =>
      go_wp2_with fail
      go_loopg [10, 11, 12] 6 (fun gk s10 s11 s12 wr => ∃ (i : Nat) (K : List Int) (ko : Option Addr) (kc : Nat), s11 = .int .i64 i ∧ i ≤ 6 ∧ i ≤ raw.length ∧ gk = 6 - i ∧ s10 = .slice ko i kc ∧ Hid (Below w.heap.size w wr ∧ KRow w.heap.size wr (.slice ko i kc) K ∧ K.length = i ∧ (∀ k ∈ K, 1 ≤ k ∧ k ≤ 9)))
      case atStart => exact ⟨0, [], none, 0, rfl, by omega, by omega, rfl, rfl, hb1, World.ownsRow_nil _ _ _ _, rfl, fun k hk => by cases hk⟩
      case round =>
        obtain ⟨i, K, ko, kc, rfl, hi, hir, rfl, rfl, HR⟩ := hrel
        by_cases hlt : i < raw.length ∧ i < 6
        · obtain ⟨r, hr⟩ : ∃ r, raw[i]? = some r := ⟨_, List.getElem?_eq_getElem hlt.1⟩
          obtain ⟨rfl, c0⟩ := HX.out _ HR.out.1 i r hr
          have h1 : (i : Int) < (raw.length : Int) := by omega
          have h2 : (i : Int) < 6 := by omega
          have HApp : Hid (∀ (k : Int), 1 ≤ k ∧ k ≤ 9 → ∀ g cap' w', w'.ownsRow w.heap.size 3 1 (.slice (some ⟨g, 0, none⟩) (i + 1) cap') (i + 1) (intCells K ++ [.int .i64 k]) → (wr.alloc (.cells #[.int .i64 k] 3)).grownBy w' (Value.slice ko i kc).ownBlock → Below w.heap.size w w' ∧ KRow w.heap.size w' (.slice (some ⟨g, 0, none⟩) (i + 1) cap') (K ++ [k]) ∧ (K ++ [k]).length = i + 1 ∧ ∀ k' ∈ K ++ [k], 1 ≤ k' ∧ k' ≤ 9) := fun k hk g cap' w' hown hgrow => by
            obtain ⟨q1, q2, q3, q4⟩ := HR.out
            refine ⟨below_grow (q1.alloc q1.size _) hgrow (fun g' e => rowBase q2 e) (by have := q1.size; simp; omega), ?_, by simp [q3], fun k' hk' => ?_⟩
            · have := KRow.snoc (K := K) (k := k) (w := wr) (by rw [q3]) hown
              have e1 : (K ++ [k]).length = i + 1 := by simp [q3]
              unfold KRow at this ⊢
              rw [e1] at this ⊢
              exact this
            · simp at hk'
              rcases hk' with hk' | rfl
              · exact q4 k' hk'
              · exact hk
          have HO : Hid (wr.ownsRow w.heap.size 3 1 (.slice ko i kc) i (intCells K)) := by
            have := HR.out.2.1
            unfold KRow at this
            rw [show K.length = i from HR.out.2.2.1] at this
            exact this
          have hsz := HR.out.1.size
          clear hr
          have hmod := Int.tmod_lt_of_pos r (show (0 : Int) < 9 by decide)
          have hmod2 : -9 < r.tmod 9 := Int.lt_tmod_of_pos r (by decide)
          by_cases hneg : r.tmod 9 < 0
          · have hrange : 1 ≤ 1 + (r.tmod 9 + 9) ∧ 1 + (r.tmod 9 + 9) ≤ 9 := by omega
            go_wp2_with (
              (at_builtin; refine wpList_append_lies _ rfl _ _ _ rfl w.heap.size 3 i0 (.int .i64 0) 1 8 Tryd.underlying22 hi0 hz0 hz1 hz2 rfl (by omega) (.slice ko i kc) i _ rfl (World.ownsRow.alloc HO.out _) ⟨wr.heap.size, 0, none⟩ 1 1 [.int .i64 (1 + (r.tmod 9 + 9))] rfl rfl (World.news_of_block (cs := #[.int .i64 (1 + (r.tmod 9 + 9))]) (t := 3) (fr := (0, 0)) (heap_alloc_new wr _)) (by simp [Value.oneCell']) (by omega) (by unfold maxLen; omega) (by omega) (by simp; omega) _ rfl ?_; intro g cap' w5 hown hgrow hat hltg; have hN := HApp.out _ hrange g cap' w5 hown hgrow; have HN : Hid (Below w.heap.size w w5 ∧ KRow w.heap.size w5 (.slice (some ⟨g, 0, none⟩) (i + 1) cap') (K ++ [1 + (r.tmod 9 + 9)]) ∧ (K ++ [1 + (r.tmod 9 + 9)]).length = i + 1 ∧ ∀ k' ∈ K ++ [1 + (r.tmod 9 + 9)], 1 ≤ k' ∧ k' ≤ 9) := hN; clear hN hown hgrow hat))
            go_roundg (6 - (i + 1))
            case measure => omega
            case rel => exact ⟨i + 1, _, _, _, by go_num, by omega, by omega, rfl, rfl, HN.out⟩
          · have hrange : 1 ≤ 1 + r.tmod 9 ∧ 1 + r.tmod 9 ≤ 9 := by omega
            go_wp2_with (
              (at_builtin; refine wpList_append_lies _ rfl _ _ _ rfl w.heap.size 3 i0 (.int .i64 0) 1 8 Tryd.underlying22 hi0 hz0 hz1 hz2 rfl (by omega) (.slice ko i kc) i _ rfl (World.ownsRow.alloc HO.out _) ⟨wr.heap.size, 0, none⟩ 1 1 [.int .i64 (1 + r.tmod 9)] rfl rfl (World.news_of_block (cs := #[.int .i64 (1 + r.tmod 9)]) (t := 3) (fr := (0, 0)) (heap_alloc_new wr _)) (by simp [Value.oneCell']) (by omega) (by unfold maxLen; omega) (by omega) (by simp; omega) _ rfl ?_; intro g cap' w5 hown hgrow hat hltg; have hN := HApp.out _ hrange g cap' w5 hown hgrow; have HN : Hid (Below w.heap.size w w5 ∧ KRow w.heap.size w5 (.slice (some ⟨g, 0, none⟩) (i + 1) cap') (K ++ [1 + r.tmod 9]) ∧ (K ++ [1 + r.tmod 9]).length = i + 1 ∧ ∀ k' ∈ K ++ [1 + r.tmod 9], 1 ≤ k' ∧ k' ≤ 9) := hN; clear hN hown hgrow hat))
            go_roundg (6 - (i + 1))
            case measure => omega
            case rel => exact ⟨i + 1, _, _, _, by go_num, by omega, by omega, rfl, rfl, HN.out⟩
        · have hdone : ∀ (wz : World), wz = wr → ∃ (K' : List Int) (ko' : Option Addr) (kc' : Nat), Value.slice ko i kc = .slice ko' K'.length kc' ∧ K'.length ≤ 6 ∧ Hid (Below w.heap.size w wz ∧ KRow w.heap.size wz (.slice ko' K'.length kc') K' ∧ ∀ k ∈ K', 1 ≤ k ∧ k ≤ 9) := by
            rintro wz rfl
            obtain ⟨q1, q2, q3, q4⟩ := HR.out
            refine ⟨K, ko, kc, by rw [q3], by omega, q1, ?_, q4⟩
            rw [q3]; exact q2
          have HD : Hid (∀ (wz : World), wz = wr → ∃ (K' : List Int) (ko' : Option Addr) (kc' : Nat), Value.slice ko i kc = .slice ko' K'.length kc' ∧ K'.length ≤ 6 ∧ Hid (Below w.heap.size w wz ∧ KRow w.heap.size wz (.slice ko' K'.length kc') K' ∧ ∀ k ∈ K', 1 ≤ k ∧ k ≤ 9)) := hdone
          clear hdone
          by_cases hA : i < raw.length
          · have h1 : (i : Int) < (raw.length : Int) := by omega
            have h2 : ¬ (i : Int) < 6 := by omega
            go_wp2_with fail
            go_meet
            case rel => exact HD.out _ rfl
          · have h1 : ¬ (i : Int) < (raw.length : Int) := by omega
            go_wp2_with fail
            go_meet
            case rel => exact HD.out _ rfl
  case rest =>
    clear hb1 HX HA
    obtain ⟨K, ko, kc, rfl, hK6, HK⟩ := hcut
    go_upto_if 56 with fail
    go_cut [10] (fun s10 wx => ∃ (K : List Int) (kg kc : Nat), s10 = .slice (some ⟨kg, 0, none⟩) K.length kc ∧ 1 ≤ K.length ∧ K.length ≤ 6 ∧ K.length ≤ kc ∧ kg < wx.heap.size ∧ Hid (Below w.heap.size w wx ∧ IsSch K ∧ ∀ w', w'.heap[kg]? = wx.heap[kg]? → IntsAt w' (.slice (some ⟨kg, 0, none⟩) K.length kc) K))
    case first =>
      as_aux_lemma =>
        by_cases h0 : K = []
        · subst h0
          go_wp2_with fail
          go_meet
          case rel =>
            refine ⟨[9], wc.heap.size, 1, rfl, by simp, by simp, by simp, by simp, HK.out.1.alloc HK.out.1.size _, by unfold IsSch; simp, fun w' hw' => ?_⟩
            rw [heap_alloc_new] at hw'
            refine ⟨_, wc.heap.size, 0, 1, rfl, Nat.le_refl _, fun i k hk => ⟨rfl, ?_⟩⟩
            match i, hk with
            | 0, hk => cases hk; simp [World.cell?, hw']
            | i + 1, hk => simp at hk
        · have hne : ¬ (K.length : Int) = 0 := by
            intro e
            exact h0 (List.length_eq_zero_iff.mp (by omega))
          obtain ⟨kg, rfl, hkc, hkg, hints⟩ := KRow.ints HK.out.2.1 h0
          have HI : Hid (∀ w', w'.heap[kg]? = wc.heap[kg]? → IntsAt w' (.slice (some ⟨kg, 0, none⟩) K.length kc) K) := hints
          clear hints h0
          go_wp2_with fail
          go_meet
          case rel => exact ⟨K, kg, kc, rfl, by omega, hK6, hkc, hkg, HK.out.1, ⟨⟨by omega, hK6⟩, HK.out.2.2⟩, HI.out⟩
    case rest =>
      clear HK hK6 K ko kc
      obtain ⟨K, kg, kc, rfl, hK1, hK6, hkc, hkg, HKS⟩ := hcut
      rename World => wk
      go_wp2_with fail
      go_loopg [13, 14, 15, 16, 17, 18] K.length (fun gk s13 s14 s15 s16 s17 s18 wr => ∃ (i : Nat) (us vs : List ValD) (xo yo : Option Addr) (xc yc : Nat), s16 = .int .i64 i ∧ i ≤ K.length ∧ gk = K.length - i ∧ s13 = .slice xo i xc ∧ s14 = .slice yo i yc ∧ s15 = .int .i64 (sgn us vs) ∧ Hid (us.length = i ∧ vs.length = i ∧ OS w wk kg K (.slice xo i xc) (.slice yo i yc) us vs wr))
      case atStart => exact ⟨0, [], [], none, none, 0, 0, rfl, by omega, rfl, rfl, rfl, rfl, rfl, rfl, OS.start HKS.out.1 hkg⟩
      case round =>
        obtain ⟨i, us, vs, xo, yo, xc, yc, rfl, hi, rfl, rfl, rfl, rfl, HR⟩ := hrel
        by_cases hlt : i < K.length
        · as_aux_lemma =>
            obtain ⟨k, hk⟩ : ∃ k, K[i]? = some k := ⟨_, List.getElem?_eq_getElem hlt⟩
            have HKk : Hid (K[i]? = some k ∧ 1 ≤ k ∧ k ≤ 9) := ⟨hk, HKS.out.2.1.all (List.mem_of_getElem? hk)⟩
            clear hk
            have hltI : (i : Int) < (K.length : Int) := by omega
            go_upto_if 69 with fail
            have hb0 : Below wr.heap.size wr ((wr.alloc (vB zD)).alloc (vB zD)) := (belowA wr _).alloc (belowA wr _).size _
            have hv0 : ((wr.alloc (vB zD)).alloc (vB zD)).heap[wr.heap.size]? = some (vB zD) := old_new wr _ _
            have hv1 : ((wr.alloc (vB zD)).alloc (vB zD)).heap[wr.heap.size + 1]? = some (vB zD) := new_new2 wr _ _
            obtain ⟨wz, hwz⟩ : ∃ wz, (wr.alloc (vB zD)).alloc (vB zD) = wz := ⟨_, rfl⟩
            have hwz2 : (wr.alloc (.cells #[.int .u64 0, .int .i64 0, .string ⟨#[]⟩] 29)).alloc (.cells #[.int .u64 0, .int .i64 0, .string ⟨#[]⟩] 29) = wz := hwz
            rw [hwz2]
            rw [hwz] at hb0 hv0 hv1
            clear hwz hwz2
            have HW0 : Hid (Below wr.heap.size wr wz ∧ wz.heap[wr.heap.size]? = some (vB zD) ∧ wz.heap[wr.heap.size + 1]? = some (vB zD)) := ⟨hb0, hv0, hv1⟩
            clear hb0 hv0 hv1
            have HCk : Hid (∀ w', Below wr.heap.size wr w' → w'.cell? ⟨kg, i, none⟩ = some (.int .i64 k)) := fun w' hb => (HKS.out.2.2 w' ((hb.block _ HR.out.2.2.kin).trans HR.out.2.2.kblk)).cell HKk.out.1
            have HFit : Hid (∀ (u u1 : ValD) (b : Nat) (wy w1 : World), ValOk u → wr.heap.size ≤ b → Below wr.heap.size wr wy → Below wy.heap.size wy w1 → Calls Tryd.prog 9 #[.int .i64 k, .agg #[.int .u64 u.u, .int .i64 u.i, .string ⟨u.s.toArray⟩]] w1 fun e w' => e = .returned (.agg #[.int .u64 (fitD k u).u, .int .i64 (fitD k u).i, .string ⟨(fitD k u).s.toArray⟩]) ∧ Below wr.heap.size wr w' ∧ ∀ j, j < wy.heap.size → w'.heap[j]? = wy.heap[j]?) := fun u u1 b wy w1 hok hbw hb hb1 =>
              (fitted_any k u w1 HKk.out.2 hok).mono fun e w' he => ⟨he.1, hb.trans ((hb1.trans (he.2.mono hb1.size)).mono hb.size), fun j hj => (he.2.block j (by have := hb1.size; omega)).trans (hb1.block j hj)⟩
            go_cut [] (fun wx => ∃ u1 : ValD, Hid (Below wr.heap.size wr wx ∧ wx.heap[wr.heap.size]? = some (vB u1) ∧ wx.heap[wr.heap.size + 1]? = some (vB zD) ∧ FitV k u1 ∧ u1.s.length ≤ 1048576))
            case first =>
              by_cases hA : i < va.length
              · obtain ⟨u, hu⟩ : ∃ u, va[i]? = some u := ⟨_, List.getElem?_eq_getElem hA⟩
                obtain ⟨rfl, c0, c1, c2, hok, hlen⟩ := HVa.out _ (HR.out.2.2.on HW0.out.1).below i u hu
                have ck := HCk.out _ HW0.out.1
                have hAI : (i : Int) < (va.length : Int) := by omega
                have HOk : Hid (ValOk u ∧ u.s.length ≤ 1048576) := ⟨hok, hlen⟩
                have HSv : Hid (∀ w', Below wr.heap.size wr w' → w'.cell? ⟨kg, i, none⟩ = some (.int .i64 k) ∧ w'.cell? ⟨kb1, p1 + i * 3, none⟩ = some (.int .u64 u.u) ∧ w'.cell? ⟨kb1, p1 + i * 3 + 1, none⟩ = some (.int .i64 u.i) ∧ w'.cell? ⟨kb1, p1 + i * 3 + 2, none⟩ = some (.string ⟨u.s.toArray⟩)) := fun w' hb => by
                  obtain ⟨_, q0, q1, q2, _⟩ := HVa.out _ (HR.out.2.2.on hb).below i u hu
                  exact ⟨HCk.out _ hb, q0, q1, q2⟩
                have hbz := (Array.getElem?_eq_some_iff.mp HW0.out.2.1).1
                have hbz1 := (Array.getElem?_eq_some_iff.mp HW0.out.2.2).1
                clear hok hlen hu
                go_wp2_with fail
                go_region_held3 (fun w' => w'.cell? ⟨kg, i, none⟩ = some (.int .i64 k) ∧ w'.cell? ⟨kb1, p1 + i * 3, none⟩ = some (.int .u64 u.u) ∧ w'.cell? ⟨kb1, p1 + i * 3 + 1, none⟩ = some (.int .i64 u.i) ∧ w'.cell? ⟨kb1, p1 + i * 3 + 2, none⟩ = some (.string ⟨u.s.toArray⟩)) (first | exact HSv.out _ HW0.out.1 | exact HSv.out _ hb2 | exact HSv.out _ (below_set3 hb2 (Nat.le_refl _)) | go_keep) ((go_at_call 9; refine (HFit.out u zD wr.heap.size wz _ HOk.out.1 (Nat.le_refl _) HW0.out.1 (Below.refl _ _).drew).mono ?_; rintro e w2 ⟨rfl, hb2, hj2⟩; have hv0 := (hj2 _ hbz).trans HW0.out.2.1; obtain ⟨d0, d1, d2⟩ := vB_cells hv0; have hfz := vB_free hv0))
                go_wp2_with fail
                go_meet
                case rel => exact ⟨fitD k u, below_set3 hb2 (Nat.le_refl _), vB_set hv0, (set3_other (by omega)).trans ((hj2 _ hbz1).trans HW0.out.2.2), (fitD_fit HKk.out.2 HOk.out.1).1, Nat.le_trans (fitD_fit HKk.out.2 HOk.out.1).2 HOk.out.2⟩
              · have hAI : ¬ (i : Int) < (va.length : Int) := by omega
                go_wp2_with fail
                go_meet
                case rel => exact ⟨zD, HW0.out.1, HW0.out.2.1, HW0.out.2.2, fit_zero HKk.out.2, by simp [zD]⟩
            case rest =>
              obtain ⟨u1, HW1⟩ := hcut
              clear HW0
              have hsz1 := (Array.getElem?_eq_some_iff.mp HW1.out.2.1).1
              have hsz2 := (Array.getElem?_eq_some_iff.mp HW1.out.2.2.1).1
              rename World => wy
              go_upto_if 82 with fail
              go_cut [] (fun wx => ∃ u2 : ValD, Hid (Below wr.heap.size wr wx ∧ wx.heap[wr.heap.size]? = some (vB u1) ∧ wx.heap[wr.heap.size + 1]? = some (vB u2) ∧ FitV k u2 ∧ u2.s.length ≤ 1048576))
              case first =>
                by_cases hA : i < vb.length
                · obtain ⟨u, hu⟩ : ∃ u, vb[i]? = some u := ⟨_, List.getElem?_eq_getElem hA⟩
                  obtain ⟨rfl, c0, c1, c2, hok, hlen⟩ := HVb.out _ (HR.out.2.2.on HW1.out.1).below i u hu
                  have ck := HCk.out _ HW1.out.1
                  have hAI : (i : Int) < (vb.length : Int) := by omega
                  have HOk : Hid (ValOk u ∧ u.s.length ≤ 1048576) := ⟨hok, hlen⟩
                  have HSv : Hid (∀ w', Below wr.heap.size wr w' → w'.cell? ⟨kg, i, none⟩ = some (.int .i64 k) ∧ w'.cell? ⟨kb2, p2 + i * 3, none⟩ = some (.int .u64 u.u) ∧ w'.cell? ⟨kb2, p2 + i * 3 + 1, none⟩ = some (.int .i64 u.i) ∧ w'.cell? ⟨kb2, p2 + i * 3 + 2, none⟩ = some (.string ⟨u.s.toArray⟩)) := fun w' hb => by
                    obtain ⟨_, q0, q1, q2, _⟩ := HVb.out _ (HR.out.2.2.on hb).below i u hu
                    exact ⟨HCk.out _ hb, q0, q1, q2⟩
                  clear hok hlen hu
                  go_wp2_with fail
                  go_region_held3 (fun w' => w'.cell? ⟨kg, i, none⟩ = some (.int .i64 k) ∧ w'.cell? ⟨kb2, p2 + i * 3, none⟩ = some (.int .u64 u.u) ∧ w'.cell? ⟨kb2, p2 + i * 3 + 1, none⟩ = some (.int .i64 u.i) ∧ w'.cell? ⟨kb2, p2 + i * 3 + 2, none⟩ = some (.string ⟨u.s.toArray⟩)) (first | exact HSv.out _ HW1.out.1 | exact HSv.out _ hb2 | exact HSv.out _ (below_set3 hb2 (Nat.le_succ _)) | go_keep) ((go_at_call 9; refine (HFit.out u zD wr.heap.size wy _ HOk.out.1 (Nat.le_refl _) HW1.out.1 (Below.refl _ _).drew).mono ?_; rintro e w2 ⟨rfl, hb2, hj2⟩; have hv1 := (hj2 _ hsz2).trans HW1.out.2.2.1; obtain ⟨d0, d1, d2⟩ := vB_cells hv1; have hfz := vB_free hv1))
                  go_wp2_with fail
                  go_meet
                  case rel => exact ⟨fitD k u, below_set3 hb2 (Nat.le_succ _), (set3_other (by omega)).trans ((hj2 _ hsz1).trans HW1.out.2.1), vB_set hv1, (fitD_fit HKk.out.2 HOk.out.1).1, Nat.le_trans (fitD_fit HKk.out.2 HOk.out.1).2 HOk.out.2⟩
                · have hAI : ¬ (i : Int) < (vb.length : Int) := by omega
                  go_wp2_with fail
                  go_meet
                  case rel => exact ⟨zD, HW1.out.1, HW1.out.2.1, HW1.out.2.2.1, fit_zero HKk.out.2, by simp [zD]⟩
              case rest =>
                obtain ⟨u2, HW2⟩ := hcut
                have HU1 : Hid (FitV k u1 ∧ u1.s.length ≤ 1048576) := HW1.out.2.2.2
                clear HW1 hsz1 hsz2 HFit HCk
                rename World => wx
                have HOS : Hid (OS w wk kg K (.slice xo i xc) (.slice yo i yc) us vs wx) := HR.out.2.2.on HW2.out.1
                have hlu : us.length = i := HR.out.1
                have hlv : vs.length = i := HR.out.2.1
                have hszx : wr.heap.size + 1 < wx.heap.size := (Array.getElem?_eq_some_iff.mp HW2.out.2.2.1).1
                have hbx := HOS.out.below.size
                obtain ⟨c0, c1, c2⟩ := vB_cells HW2.out.2.1
                have HXr : Hid ((wx.alloc (vB u1)).ownsRow w.heap.size 29 3 (.slice xo i xc) i (flatV us)) := by
                  have := World.ownsRow.alloc HOS.out.xrow (vB u1)
                  rw [hlu] at this
                  exact this
                have HP1 : Hid (∀ g cap' w', w'.ownsRow w.heap.size 29 3 (.slice (some ⟨g, 0, none⟩) (i + 1) cap') (i + 1) (flatV us ++ cellsV u1) → (wx.alloc (vB u1)).grownBy w' (Value.slice xo i xc).ownBlock → ((Value.slice xo i xc).ownBlock = some g ∨ g = (wx.alloc (vB u1)).heap.size) → OS w wk kg K (.slice (some ⟨g, 0, none⟩) (i + 1) cap') (.slice yo i yc) (us ++ [u1]) vs w' ∧ w'.heap[wr.heap.size]? = some (vB u1) ∧ w'.heap[wr.heap.size + 1]? = some (vB u2)) := fun g cap' w' hrow hgrow hat => by
                  have hOS := HOS.out.on (belowA wx (vB u1))
                  have h := hOS.put (g := g) (cap := cap') (w' := w') (k := k) (u := u1) (by rw [hlu]; exact hrow) hgrow hat (by rw [hlu]; exact HKk.out.1) HU1.out.1 HU1.out.2
                  rw [hlu] at h
                  have hne : ∀ j, wr.heap.size ≤ j → some j ≠ (Value.slice xo i xc).ownBlock := fun j hj e => by
                    have := rowLt HR.out.2.2.xrow e.symm; omega
                  refine ⟨h, ?_, ?_⟩
                  · rw [hgrow.block _ (by simp; omega) (hne _ (Nat.le_refl _)), (belowA wx (vB u1)).block _ (by omega)]; exact HW2.out.2.1
                  · rw [hgrow.block _ (by simp; omega) (hne _ (Nat.le_succ _)), (belowA wx (vB u1)).block _ (by omega)]; exact HW2.out.2.2.1
                have HP2 : Hid (∀ gx cx w5 g cap' w', OS w wk kg K (.slice (some ⟨gx, 0, none⟩) (i + 1) cx) (.slice yo i yc) (us ++ [u1]) vs w5 ∧ w5.heap[wr.heap.size]? = some (vB u1) ∧ w5.heap[wr.heap.size + 1]? = some (vB u2) → w'.ownsRow w.heap.size 29 3 (.slice (some ⟨g, 0, none⟩) (i + 1) cap') (i + 1) (flatV vs ++ cellsV u2) → (w5.alloc (vB u2)).grownBy w' (Value.slice yo i yc).ownBlock → ((Value.slice yo i yc).ownBlock = some g ∨ g = (w5.alloc (vB u2)).heap.size) → OS w wk kg K (.slice (some ⟨gx, 0, none⟩) (i + 1) cx) (.slice (some ⟨g, 0, none⟩) (i + 1) cap') (us ++ [u1]) (vs ++ [u2]) w' ∧ w'.heap[wr.heap.size]? = some (vB u1) ∧ w'.heap[wr.heap.size + 1]? = some (vB u2)) := fun gx cx w5 g cap' w' h5 hrow hgrow hat => by
                  obtain ⟨h5, h51, h52⟩ := h5
                  have hOS := (h5.on (belowA w5 (vB u2))).swap
                  have h := hOS.put (g := g) (cap := cap') (w' := w') (k := k) (u := u2) (by rw [hlv]; exact hrow) hgrow hat (by rw [hlv]; exact HKk.out.1) HW2.out.2.2.2.1 HW2.out.2.2.2.2
                  rw [hlv] at h
                  have hl1 := (Array.getElem?_eq_some_iff.mp h51).1
                  have hl2 := (Array.getElem?_eq_some_iff.mp h52).1
                  have hne : ∀ j, wr.heap.size ≤ j → some j ≠ (Value.slice yo i yc).ownBlock := fun j hj e => by
                    have := rowLt HR.out.2.2.yrow e.symm; omega
                  refine ⟨h.swap, ?_, ?_⟩
                  · rw [hgrow.block _ (by simp; omega) (hne _ (Nat.le_refl _)), (belowA w5 (vB u2)).block _ (by omega)]; exact h51
                  · rw [hgrow.block _ (by simp; omega) (hne _ (Nat.le_succ _)), (belowA w5 (vB u2)).block _ (by omega)]; exact h52
                have HL : Hid (us.length = i ∧ vs.length = i) := ⟨hlu, hlv⟩
                clear hlu hlv
                have hi6 : i < 6 := by omega
                have HO : Hid (∀ w1, Calls Tryd.prog 10 #[.agg #[.int .u64 u1.u, .int .i64 u1.i, .string ⟨u1.s.toArray⟩], .agg #[.int .u64 u2.u, .int .i64 u2.i, .string ⟨u2.s.toArray⟩]] w1 fun e w' => e = .returned (.int .i64 (ordV u1 u2)) ∧ Below w1.heap.size w1 w') := fun w1 => order_any u1 u2 w1
                have ev1 : ∀ w1 : World, w1.alloc (.cells #[.int .u64 u1.u, .int .i64 u1.i, .string ⟨u1.s.toArray⟩] 29) = w1.alloc (vB u1) := fun _ => rfl
                have ev2 : ∀ w1 : World, w1.alloc (.cells #[.int .u64 u2.u, .int .i64 u2.i, .string ⟨u2.s.toArray⟩] 29) = w1.alloc (vB u2) := fun _ => rfl
                go_upto_region 25 with (
                  (at_builtin; refine wpList_append_lies _ rfl _ _ _ rfl w.heap.size 29 j0 (.agg #[.int .u64 0, .int .i64 0, .string ⟨#[]⟩]) 3 32 Tryd.underlying23 hj0 hy0 hy1 hy2 rfl (by omega) (.slice xo i xc) i _ rfl HXr.out ⟨wx.heap.size, 0, none⟩ 1 1 (cellsV u1) rfl rfl (World.news_of_block (cs := #[.int .u64 u1.u, .int .i64 u1.i, .string ⟨u1.s.toArray⟩]) (t := 29) (fr := (0, 0)) (heap_alloc_new wx _)) (by simp [cellsV, Value.oneCell']) (by omega) (by unfold maxLen; omega) (by omega) (by simp; omega) _ rfl ?_; intro g1 cap1' w5 hown hgrow hat hltg; have HN1 : Hid (OS w wk kg K (.slice (some ⟨g1, 0, none⟩) (i + 1) cap1') (.slice yo i yc) (us ++ [u1]) vs w5 ∧ w5.heap[wr.heap.size]? = some (vB u1) ∧ w5.heap[wr.heap.size + 1]? = some (vB u2)) := HP1.out g1 cap1' w5 hown hgrow hat; clear hown hgrow hat))
                clear c0 c1 c2 HP1 HXr HOS HW2
                obtain ⟨d0, d1, d2⟩ := vB_cells HN1.out.2.2
                have hb5 := HN1.out.1.below.size
                have HYr : Hid ((w5.alloc (vB u2)).ownsRow w.heap.size 29 3 (.slice yo i yc) i (flatV vs)) := by
                  have := World.ownsRow.alloc HN1.out.1.yrow (vB u2)
                  rw [HL.out.2] at this
                  exact this
                go_upto_region 26 with (
                  (at_builtin; refine wpList_append_lies _ rfl _ _ _ rfl w.heap.size 29 j0 (.agg #[.int .u64 0, .int .i64 0, .string ⟨#[]⟩]) 3 32 Tryd.underlying23 hj0 hy0 hy1 hy2 rfl (by omega) (.slice yo i yc) i _ rfl HYr.out ⟨w5.heap.size, 0, none⟩ 1 1 (cellsV u2) rfl rfl (World.news_of_block (cs := #[.int .u64 u2.u, .int .i64 u2.i, .string ⟨u2.s.toArray⟩]) (t := 29) (fr := (0, 0)) (heap_alloc_new w5 _)) (by simp [cellsV, Value.oneCell']) (by omega) (by unfold maxLen; omega) (by omega) (by simp; omega) _ rfl ?_; intro g2 cap2' w6 hown hgrow hat hltg; have HN2 : Hid (OS w wk kg K (.slice (some ⟨g1, 0, none⟩) (i + 1) cap1') (.slice (some ⟨g2, 0, none⟩) (i + 1) cap2') (us ++ [u1]) (vs ++ [u2]) w6 ∧ w6.heap[wr.heap.size]? = some (vB u1) ∧ w6.heap[wr.heap.size + 1]? = some (vB u2)) := HP2.out g1 cap1' w5 g2 cap2' w6 HN1.out hown hgrow hat; clear hown hgrow hat))
                clear d0 d1 d2 HP2 HYr HN1 hb5
                obtain ⟨c0, c1, c2⟩ := vB_cells HN2.out.2.1
                obtain ⟨d0, d1, d2⟩ := vB_cells HN2.out.2.2
                have HLs : Hid ((us ++ [u1]).length = i + 1 ∧ (vs ++ [u2]).length = i + 1 ∧ sgn (us ++ [u1]) (vs ++ [u2]) = if sgn us vs = 0 then ordV u1 u2 else sgn us vs) := ⟨by simp [HL.out.1], by simp [HL.out.2], sgn_snoc us vs u1 u2 (by rw [HL.out.1, HL.out.2])⟩
                by_cases hs0 : sgn us vs = 0
                · have HS0 : Hid (sgn us vs = 0) := hs0
                  rw [hs0]
                  clear hs0
                  go_wp2_with ((go_at_call 10; refine (HO.out _).mono ?_; rintro e w7 ⟨rfl, hb7⟩))
                  go_roundg (K.length - (i + 1))
                  case measure => omega
                  case rel => exact ⟨i + 1, us ++ [u1], vs ++ [u2], _, _, _, _, by go_num, by omega, rfl, rfl, rfl, by rw [HLs.out.2.2, if_pos HS0.out], HLs.out.1, HLs.out.2.1, HN2.out.1.on hb7⟩
                · go_wp2_with fail
                  go_roundg (K.length - (i + 1))
                  case measure => omega
                  case rel => exact ⟨i + 1, us ++ [u1], vs ++ [u2], _, _, _, _, by go_num, by omega, rfl, rfl, rfl, by rw [HLs.out.2.2, if_neg hs0], HLs.out.1, HLs.out.2.1, HN2.out.1⟩
        · have hltI : ¬ (i : Int) < (K.length : Int) := by omega
          obtain rfl : i = K.length := by omega
          clear HVa HVb hlt
          rename World => wq
          obtain ⟨hlu, hlv, HOS⟩ := HR.out
          have hfu : FitAll K us := by have := HOS.fx; rw [hlu, List.take_length] at this; exact this
          have hfv : FitAll K vs := by have := HOS.fy; rw [hlv, List.take_length] at this; exact this
          obtain ⟨xg, rfl, hxc, hxg, hxv⟩ := vals_row (us := us) (by rw [hlu]; have := HOS.xrow; rw [hlu] at this; exact this) (fun e => by rw [e] at hlu; simp at hlu; omega)
          obtain ⟨yg, rfl, hyc, hyg, hyv⟩ := vals_row (us := vs) (by rw [hlv]; have := HOS.yrow; rw [hlv] at this; exact this) (fun e => by rw [e] at hlv; simp at hlv; omega)
          have hki := HKS.out.2.2
          have hsch := HKS.out.2.1
          have hkb := HOS.kblk
          have hkin := HOS.kin
          have hbw := HOS.below
          have htu := encAll_len 1048576 K us HOS.sx
          have htv := encAll_len 1048576 K vs HOS.sy
          rw [hlu] at htu hxc hxv; rw [hlv] at htv hyc hyv
          have hmul : K.length * (2 * 1048576 + 10) ≤ 6 * (2 * 1048576 + 10) := Nat.mul_le_mul_right _ hK6
          obtain ⟨P, hP⟩ : ∃ P, (⟨(encAll K us).toArray⟩ : ByteArray) = P := ⟨_, rfl⟩
          obtain ⟨Q, hQ⟩ : ∃ Q, (⟨(encAll K vs).toArray⟩ : ByteArray) = Q := ⟨_, rfl⟩
          obtain ⟨S, hS⟩ : ∃ S, sgn us vs = S := ⟨_, rfl⟩
          have HE1 : Hid (∀ w1, Below wq.heap.size wq w1 → Calls Tryd.prog 6 #[.slice (some ⟨kg, 0, none⟩) K.length kc, .slice (some ⟨xg, 0, none⟩) K.length xc] w1 fun e w' => e = .returned (.tuple #[.string P, .int .i64 0]) ∧ Below wq.heap.size wq w') := fun w1 hb => by
            refine (encode_any (hki w1 ((hb.block _ hkin).trans hkb)) (hxv w1 (hb.block _ hxg)) (by omega) (by omega) (valOk_all hfu) (cell_later (hbw.trans (hb.mono hbw.size)) HM.out) (fun u hu => by have := HOS.sx u hu; omega) (by omega)).mono ?_
            rintro e w' ⟨h1, h2⟩
            refine ⟨?_, hb.trans (h2.mono hb.size)⟩
            rcases h1 with ⟨h1, _⟩ | ⟨_, h1, _⟩ | ⟨_, _, h1⟩
            · exact absurd hsch h1
            · exact absurd hfu h1
            · rw [h1, hP]
          have HE2 : Hid (∀ w1, Below wq.heap.size wq w1 → Calls Tryd.prog 6 #[.slice (some ⟨kg, 0, none⟩) K.length kc, .slice (some ⟨yg, 0, none⟩) K.length yc] w1 fun e w' => e = .returned (.tuple #[.string Q, .int .i64 0]) ∧ Below wq.heap.size wq w') := fun w1 hb => by
            refine (encode_any (hki w1 ((hb.block _ hkin).trans hkb)) (hyv w1 (hb.block _ hyg)) (by omega) (by omega) (valOk_all hfv) (cell_later (hbw.trans (hb.mono hbw.size)) HM.out) (fun u hu => by have := HOS.sy u hu; omega) (by omega)).mono ?_
            rintro e w' ⟨h1, h2⟩
            refine ⟨?_, hb.trans (h2.mono hb.size)⟩
            rcases h1 with ⟨h1, _⟩ | ⟨_, h1, _⟩ | ⟨_, _, h1⟩
            · exact absurd hsch h1
            · exact absurd hfv h1
            · rw [h1, hQ]
          have HE3 : Hid (∀ (n : Nat) w1, 1 ≤ n → n ≤ K.length → Below wq.heap.size wq w1 → Calls Tryd.prog 6 #[.slice (some ⟨kg, 0, none⟩) n kc, .slice (some ⟨xg, 0, none⟩) n xc] w1 fun e w' => e = .returned (.tuple #[.string ⟨(encAll (K.take n) (us.take n)).toArray⟩, .int .i64 0]) ∧ Below wq.heap.size wq w') := fun n w1 hn1 hn hb => by
            have hp := encAll_part K us n
            have hft := fitAll_take hfu n
            have hst : IsSch (K.take n) := ⟨⟨by simp; omega, by simp; omega⟩, fun k hk => hsch.2 k (List.mem_of_mem_take hk)⟩
            refine (encode_any ((hki w1 ((hb.block _ hkin).trans hkb)).cut hn) ((hxv w1 (hb.block _ hxg)).cut hn) (by simp; omega) (by simp; omega) (valOk_all hft) (cell_later (hbw.trans (hb.mono hbw.size)) HM.out) (fun u hu => by have := HOS.sx u (List.mem_of_mem_take hu); omega) (by omega)).mono ?_
            rintro e w' ⟨h1, h2⟩
            refine ⟨?_, hb.trans (h2.mono hb.size)⟩
            rcases h1 with ⟨h1, _⟩ | ⟨_, h1, _⟩ | ⟨_, _, h1⟩
            · exact absurd hst h1
            · exact absurd hft h1
            · exact h1
          have HD : Hid (∀ w1, Below wq.heap.size wq w1 → Calls Tryd.prog 11 #[.slice (some ⟨kg, 0, none⟩) K.length kc, .string P] w1 fun e w' => e = .returned (.tuple #[.slice (some ⟨w1.heap.size, 0, none⟩) K.length K.length, .int .i64 0]) ∧ Below wq.heap.size wq w' ∧ w1.heap.size < w'.heap.size ∧ ∀ w2, w2.heap[w1.heap.size]? = w'.heap[w1.heap.size]? → ValsAt w2 (.slice (some ⟨w1.heap.size, 0, none⟩) K.length K.length) us) := fun w1 hb => by
            refine (decode_any (hki w1 ((hb.block _ hkin).trans hkb)) (by omega) (by rw [← hP]; show (encAll K us).toArray.size ≤ _; simp; omega)).mono ?_
            rintro e w' ⟨h1, h2⟩
            have hrd : rdAll K P.data.toList = some us := by rw [← hP]; exact rdAll_enc K us hfu
            rcases h1 with ⟨h1, _⟩ | ⟨_, h1, _⟩ | ⟨us', _, h1, h3, h4⟩
            · exact absurd hsch h1
            · rw [hrd] at h1; cases h1
            · rw [hrd] at h1; cases h1
              obtain ⟨g, e1, _, hg, hv⟩ := vals_row h4 (fun e => by rw [e] at hlu; simp at hlu; omega)
              cases e1
              rw [hlu] at h3 hv
              exact ⟨h3, hb.trans (h2.mono hb.size), hg, hv⟩
          have HSP : Hid ((S = -1 → Sep (encAll K us) (encAll K vs)) ∧ (S = 1 → Sep (encAll K vs) (encAll K us)) ∧ (S = 0 → us = vs) ∧ (S = 0 ∨ S = -1 ∨ S = 1)) := hS ▸ sepAll K us vs hfu hfv
          have HXv : Hid (∀ w1, Below wq.heap.size wq w1 → ValsAt w1 (.slice (some ⟨xg, 0, none⟩) K.length xc) us) := fun w1 hb => hxv w1 (hb.block _ hxg)
          have HP : Hid ((⟨(encAll K us).toArray⟩ : ByteArray) = P ∧ (⟨(encAll K vs).toArray⟩ : ByteArray) = Q ∧ (encAll K us).length ≤ 100000000 ∧ (encAll K vs).length ≤ 100000000) := ⟨hP, hQ, by omega, by omega⟩
          have HLu : Hid (us.length = K.length) := hlu
          have HPQ : Hid ((S = 0 ∧ P = Q) ∨ (S = -1 ∧ Op.bytesLess P.toList Q.toList = true ∧ ¬ P = Q ∧ ¬ Q.extract 0 P.size = P ∧ ¬ P.extract 0 Q.size = Q) ∨ (S = 1 ∧ Op.bytesLess P.toList Q.toList = false ∧ ¬ P = Q ∧ ¬ Q.extract 0 P.size = P ∧ ¬ P.extract 0 Q.size = Q)) := by
            obtain ⟨q1, q2, q3, q4⟩ := HSP.out
            rcases q4 with h | h | h
            · exact .inl ⟨h, by rw [← hP, ← hQ, q3 h]⟩
            · obtain ⟨e1, _, e3, e4, e5⟩ := sep_facts hP hQ (q1 h)
              exact .inr (.inl ⟨h, e1, e3, e4, e5⟩)
            · obtain ⟨_, e2, e3, e4, e5⟩ := sep_facts hQ hP (q2 h)
              exact .inr (.inr ⟨h, e2, fun e => e3 e.symm, e5, e4⟩)
          have HE4 : Hid (∀ n, (⟨(encAll (K.take n) (us.take n)).toArray⟩ : ByteArray).size ≤ P.size ∧ P.extract 0 (⟨(encAll (K.take n) (us.take n)).toArray⟩ : ByteArray).size = ⟨(encAll (K.take n) (us.take n)).toArray⟩) := fun n => ext_pre rfl hP (encAll_prefix K us n)
          clear HSP
          rw [hS]
          clear hlu hlv HOS hxv hyv hki hkb hP hQ hS hfu hfv HR htu htv hmul hsch
          go_upto_region 29 with ((go_at_call 6; refine (HE1.out _ (Below.refl _ _)).mono ?_; rintro e w1 ⟨rfl, hb1⟩))
          clear HE1
          go_upto_region 30 with ((go_at_call 6; refine (HE2.out _ hb1).mono ?_; rintro e w2 ⟨rfl, hb2⟩))
          clear HE2
          go_cut [15, 19, 21, 142] (fun s15 s19 s21 s wx => s15 = .int .i64 S ∧ s19 = .string P ∧ s21 = .string Q ∧ s = .bool false ∧ wx = w2)
          case first =>
            as_aux_lemma =>
              have hl1 : Op.bytesLess P.toList Q.toList = decide (S < 0) := by
                rcases HPQ.out with ⟨rfl, rfl⟩ | ⟨rfl, e1, e2, _, _⟩ | ⟨rfl, e1, e2, _, _⟩
                · exact less_irrefl _
                · exact e1
                · exact e1
              have hl2 : (P.toList == Q.toList) = (S == 0) := by
                rcases HPQ.out with ⟨rfl, rfl⟩ | ⟨rfl, e1, e2, _, _⟩ | ⟨rfl, e1, e2, _, _⟩
                · exact ba_eq rfl
                · exact ba_ne e2
                · exact ba_ne e2
              clear HPQ
              go_wp2_with fail
              go_meet
              case rel => exact ⟨rfl, rfl, rfl, by simp, rfl⟩
          case rest =>
            obtain ⟨rfl, rfl, rfl, rfl, rfl⟩ := hcut
            go_upto_region 32 with fail
            go_cut [19, 21, 175] (fun s19 s21 s wx => s19 = .string P ∧ s21 = .string Q ∧ s = .bool false ∧ wx = wc)
            case first =>
              by_cases he : P = Q
              · as_aux_lemma =>
                  clear HPQ
                  subst he
                  go_wp2_with fail
                  go_meet
                  case rel => exact ⟨rfl, rfl, rfl, rfl⟩
              · have hx : ¬ Q.extract 0 P.size = P ∧ ¬ P.extract 0 Q.size = Q := by
                  rcases HPQ.out with ⟨_, h⟩ | ⟨_, _, _, h⟩ | ⟨_, _, _, h⟩
                  · exact absurd h he
                  · exact h
                  · exact h
                clear HPQ
                have e0 := ba_ne he
                have e1 := ba_ne hx.1
                have e2 := ba_ne hx.2
                by_cases h1 : P.size ≤ Q.size
                · by_cases h2 : Q.size ≤ P.size
                  · have h1I : (P.size : Int) ≤ (Q.size : Int) := by omega
                    have h2I : (Q.size : Int) ≤ (P.size : Int) := by omega
                    clear hx
                    as_aux_lemma =>
                      go_wp2_with fail
                      go_meet
                      case rel => exact ⟨rfl, rfl, rfl, rfl⟩
                  · have h1I : (P.size : Int) ≤ (Q.size : Int) := by omega
                    have h2I : ¬ (Q.size : Int) ≤ (P.size : Int) := by omega
                    clear hx
                    as_aux_lemma =>
                      go_wp2_with fail
                      go_meet
                      case rel => exact ⟨rfl, rfl, rfl, rfl⟩
                · have h1I : ¬ (P.size : Int) ≤ (Q.size : Int) := by omega
                  have h2I : (Q.size : Int) ≤ (P.size : Int) := by omega
                  clear hx
                  as_aux_lemma =>
                    go_wp2_with fail
                    go_meet
                    case rel => exact ⟨rfl, rfl, rfl, rfl⟩
            case rest =>
              obtain ⟨rfl, rfl, rfl, rfl⟩ := hcut
              go_wp2_with ((go_at_call 11; refine (HD.out _ hb2).mono ?_; rintro e w3 ⟨rfl, hb3, hg3, hz3⟩; have HZ : Hid (∀ w2, w2.heap[wc.heap.size]? = w3.heap[wc.heap.size]? → ValsAt w2 (.slice (some ⟨wc.heap.size, 0, none⟩) K.length K.length) us) := hz3; clear hz3))
              clear HD HPQ
              go_loopg [25] K.length (fun gk s25 wr => ∃ j : Nat, s25 = .int .i64 j ∧ j ≤ K.length ∧ gk = K.length - j ∧ Hid (Below w3.heap.size w3 wr))
              case atStart => exact ⟨0, rfl, by omega, rfl, Below.refl _ _⟩
              case round =>
                obtain ⟨j, rfl, hj, rfl, HB⟩ := hrel
                by_cases hlt : j < K.length
                · obtain ⟨u, hu⟩ : ∃ u, us[j]? = some u := ⟨_, List.getElem?_eq_getElem (by rw [HLu.out]; exact hlt)⟩
                  obtain ⟨c0, c1, c2⟩ := (HZ.out wr (HB.out.block _ hg3)).cell hu
                  obtain ⟨d0, d1, d2⟩ := (HXv.out wr (hb3.trans (HB.out.mono hb3.size))).cell hu
                  have hltI : (j : Int) < (K.length : Int) := by omega
                  clear hu
                  as_aux_lemma =>
                    go_wp2
                    go_quiet (fail)
                    go_wp2
                    go_roundg (K.length - (j + 1))
                    case measure => omega
                    case rel => exact ⟨j + 1, by go_num, by omega, rfl, belowN HB.out _⟩
                · have hltI : ¬ (j : Int) < (K.length : Int) := by omega
                  have hK0 : ¬ (K.length : Int) = 0 := by omega
                  have hB4 : Below wq.heap.size wq wr := hb3.trans (HB.out.mono hb3.size)
                  obtain ⟨r, hr⟩ : ∃ r, first.tmod (K.length : Int) = r := ⟨_, rfl⟩
                  have hr1 : r < K.length := by rw [← hr]; exact Int.tmod_lt_of_pos first (by omega)
                  have hr2 : -(K.length : Int) < r := by rw [← hr]; exact Int.lt_tmod_of_pos first (by omega)
                  go_upto_if 211 with fail
                  go_cut [26] (fun s wx => ∃ n : Nat, s = .int .i64 n ∧ n < K.length ∧ wx = wr)
                  case first =>
                    as_aux_lemma =>
                      by_cases hneg : r < 0
                      · go_wp2_with fail
                        go_meet
                        case rel => exact ⟨(-r).toNat, by rw [Int.toNat_of_nonneg (by omega)], by omega, rfl⟩
                      · go_wp2_with fail
                        go_meet
                        case rel => exact ⟨r.toNat, by rw [Int.toNat_of_nonneg (by omega)], by omega, rfl⟩
                  case rest =>
                    clear hr hr1 hr2 HZ
                    obtain ⟨n, rfl, hn, rfl⟩ := hcut
                    by_cases hn0 : n = 0
                    · as_aux_lemma =>
                        subst hn0
                        go_wp2_with fail
                        go_ret
                        exact ⟨rfl, hbw.trans (hB4.mono hbw.size)⟩
                    · as_aux_lemma =>
                        have hn1 : ¬ (n : Int) = 0 := by omega
                        have hnk : (n : Int) ≤ (kc : Int) := by omega
                        have hnx : (n : Int) ≤ (xc : Int) := by omega
                        obtain ⟨T, hT⟩ : ∃ T, (⟨(encAll (K.take n) (us.take n)).toArray⟩ : ByteArray) = T := ⟨_, rfl⟩
                        have HE5 : Hid (∀ w1, Below wq.heap.size wq w1 → Calls Tryd.prog 6 #[.slice (some ⟨kg, 0, none⟩) n kc, .slice (some ⟨xg, 0, none⟩) n xc] w1 fun e w' => e = .returned (.tuple #[.string T, .int .i64 0]) ∧ Below wq.heap.size wq w') := hT ▸ fun w1 hb => HE3.out n w1 (by omega) (by omega) hb
                        obtain ⟨hs1, hs2⟩ := HE4.out n
                        rw [hT] at hs1 hs2
                        have hs1I : (T.size : Int) ≤ (P.size : Int) := by omega
                        have hs3 := ba_eq hs2
                        have HB4 : Hid (Below wq.heap.size wq wc) := hB4
                        clear hs2 hT HE3 HE4 hB4
                        go_wp2_with fail
                        go_region_held3 (fun _ => True) (trivial) ((go_at_call 6; refine (HE5.out _ HB4.out.drew).mono ?_; rintro e w5 ⟨rfl, hb5⟩))
                        go_wp2_with fail
                        go_ret
                        exact ⟨rfl, hbw.trans (hb5.mono hbw.size)⟩

end Go.Proofs.YtcgjppacnhmjlaaDoor
