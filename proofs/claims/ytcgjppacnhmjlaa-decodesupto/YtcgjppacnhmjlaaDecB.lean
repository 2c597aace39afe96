/- Decodes: every Decode, of any text, twice. -/
import Derived.Test.YtcgjppacnhmjlaaDecA
set_option linter.unusedVariables false
set_option linter.unusedSimpArgs false
namespace Go.Proofs.Ytcgjppacnhmjlaa
open Go.RowKit Go.Shelf
attribute [local go_sem ↓] Go.wp_at_zero Go.wp_at_succ

theorem ex9_sch : IsSch [9] := by decide +kernel
theorem ex9_rd : rdAll [9] [0, 0] = some [⟨0, 0, []⟩] := by
  simp [rdAll, rdV, unesc]
def ex9 : Obj := .cells #[.int .i64 9] 3
theorem ex9_ints {w : World} {b : Nat} (h : w.heap[b]? = some ex9) : IntsAt w (.slice (some ⟨b, 0, none⟩) 1 1) [9] := by
  refine ⟨_, b, 0, 1, rfl, Nat.le_refl _, fun i k hk => ⟨rfl, ?_⟩⟩
  match i, hk with
  | 0, hk => cases hk; simp [World.cell?, h, ex9]
  | i + 1, hk => simp at hk
theorem row_keep {w w' : World} {B B' : Nat} {v : Value} {vs : List ValD} (h : VRow B w v vs) (hb : Below B' w w') (hB : ∀ g, v.ownBlock = some g → g < B') : VRow B w' v vs := rowOn h fun g e => hb.block g (hB g e)

set_option maxRecDepth 100000 in
set_option maxHeartbeats 8000000 in
theorem decodes_any {w : World} {x : Value} {ks : List Int} {s : ByteArray} (hx : IntsAt w x ks) (hl : ks.length ≤ 1048576) (hs : s.size ≤ 1048576) :
    Calls Try.prog 7 #[x, .string s] w fun e w' => e = .returned (.bool true) ∧ Below w.heap.size w w' := by
  obtain ⟨j0, hj0, hy0, hy1, hy2⟩ := info_parts infoV
  obtain ⟨vs, E, hR⟩ : ∃ vs E, decR ks s.data.toList = (vs, E) := ⟨_, _, rfl⟩
  have hn6 : vs.length ≤ 6 := by have := decR_len ks s.data.toList; rw [hR] at this; exact this
  have HEx : Hid (Calls Try.prog 25 #[.slice (some ⟨w.heap.size, 0, none⟩) 1 1, .string ⟨#[0, 0]⟩] (w.alloc ex9) fun e w' => e = .returned (.tuple #[.slice (some ⟨w.heap.size + 1, 0, none⟩) 1 1, .int .i64 0]) ∧ (w'.cell? ⟨w.heap.size + 1, 0, none⟩ = some (.int .u64 0) ∧ w'.cell? ⟨w.heap.size + 1, 1, none⟩ = some (.int .i64 0) ∧ w'.cell? ⟨w.heap.size + 1, 2, none⟩ = some (.string ⟨#[]⟩)) ∧ Below w.heap.size w w') := by
    refine (decode_any (ex9_ints (heap_alloc_new w ex9)) (by decide) (by decide)).mono ?_
    rintro e w' ⟨h1, h2⟩
    have hsz : (w.alloc ex9).heap.size = w.heap.size + 1 := by simp
    rcases h1 with ⟨h1, _⟩ | ⟨_, h1, _⟩ | ⟨vs', _, h1, h3, h4⟩
    · exact absurd ex9_sch h1
    · have := h1.symm.trans ex9_rd; cases this
    · have := h1.symm.trans ex9_rd
      cases this
      rw [hsz] at h3 h4
      have hv := VRow.vals (B := 0) h4
      obtain ⟨ao, kb, p, cap, e1, e2, e3⟩ := hv
      obtain ⟨e4, c0, c1, c2⟩ := e3 0 ⟨0, 0, []⟩ rfl
      simp only [Value.slice.injEq] at e1
      rw [← e1.1] at e4
      cases e4
      exact ⟨h3, by simpa using ⟨c0, c1, c2⟩, (belowA w ex9).trans (h2.mono (by simp))⟩
  have HLent : Hid (∀ w1, Below w.heap.size w w1 → Calls Try.prog 26 #[x] w1 fun e w' => e = .returned (.slice (some ⟨w1.heap.size, 0, none⟩) (ks.length + 1) (ks.length + 1)) ∧ Lent w' w1.heap.size ks (-77) ∧ Below w1.heap.size w1 w') := fun w1 hb => lent_any (hx.on hb) hl
  have HRef : Hid (∀ w1, Below w.heap.size w w1 → Calls Try.prog 27 #[x, .string s] w1 fun e w' => ∃ ao ac, e = .returned (.tuple #[.slice ao vs.length ac, .int .i64 E]) ∧ VRow w1.heap.size w' (.slice ao vs.length ac) vs ∧ Below w1.heap.size w1 w') := fun w1 hb => by
    have := refU (hx.on hb) (s := s) (by omega) (by omega)
    rw [hR] at this
    exact this
  have HDec : Hid (∀ w1 g, Lent w1 g ks (-77) → Calls Try.prog 25 #[.slice (some ⟨g, 0, none⟩) ks.length (ks.length + 1), .string s] w1 fun e w' => ∃ ao ac, e = .returned (.tuple #[.slice ao vs.length ac, .int .i64 E]) ∧ VRow w1.heap.size w' (.slice ao vs.length ac) vs ∧ Below w1.heap.size w1 w') := fun w1 g h => by
    have := decodeU h.ints (s := s) (by omega) (by omega)
    rw [hR] at this
    exact this
  have HBack : Hid (∀ w1 g, Below w.heap.size w w1 → Lent w1 g ks (-77) → Calls Try.prog 28 #[.slice (some ⟨g, 0, none⟩) (ks.length + 1) (ks.length + 1), x] w1 fun e w' => e = .returned (.bool true) ∧ Bt g w1 w') := fun w1 g hb h => backL_any h (hx.on hb) hl
  have HSame : Hid (∀ w1 a b, ValsAt w1 a vs → ValsAt w1 b vs → Calls Try.prog 29 #[a, b] w1 fun e w' => e = .returned (.bool true) ∧ Below w1.heap.size w1 w') := fun w1 a b h1 h2 => sameValues_any h1 h2 (by omega)
  have HNum : Hid (∀ (n : Int) w1, Calls Try.prog 30 #[.int .i64 n] w1 fun e w' => e = .returned (.int .i64 n) ∧ w' = w1) := fun n w1 => by
    go_enter Try.func30, Try.ntmps30
    go_wp2
    go_ret
    exact ⟨rfl, rfl⟩
  obtain ⟨xo, kb, p, cap, rfl, hcap, hc⟩ := hx
  clear hc hR
  have n1 : (ks.length : Int) ≤ (ks.length : Int) + 1 := by omega
  have e9 : ∀ w1 : World, w1.alloc (.cells #[.int .i64 9] 3) = w1.alloc ex9 := fun _ => rfl
  go_enter Try.func7, Try.ntmps7
  go_upto_region 4 with ((go_at_call 25; refine HEx.out.mono ?_; rintro e w1 ⟨rfl, ⟨z0, z1, z2⟩, hb1⟩; have HB1 : Hid (Below w.heap.size w w1) := hb1; clear hb1))
  clear z0 z1 z2 HEx e9
  have hs1 := HB1.out.size
  go_upto_region 9 with (first
    | (go_at_call 26; refine (HLent.out _ HB1.out).mono ?_; rintro e w2 ⟨rfl, hL2, hb2⟩; have HL2 : Hid (Lent w2 w1.heap.size ks (-77)) := hL2; have HB2 : Hid (Below w.heap.size w w2) := HB1.out.trans (hb2.mono hs1); have hs2 : w1.heap.size < w2.heap.size := rowLt hL2 rfl; clear hL2 hb2)
    | (go_at_call 27; refine (HRef.out _ HB2.out).mono ?_; rintro e w3 ⟨wo, wc, rfl, hW3, hb3⟩; have HW3 : Hid (VRow w2.heap.size w3 (.slice wo vs.length wc) vs) := hW3; have HB3 : Hid (Below w.heap.size w w3) := HB2.out.trans (hb3.mono (by omega)); have HL3 : Hid (Lent w3 w1.heap.size ks (-77)) := rowOn HL2.out fun g e => hb3.block g (rowLt HL2.out e); have hs3 := hb3.size; clear hW3 hb3)
    | (go_at_call 25; refine (HDec.out _ _ HL3.out).mono ?_; rintro e w4 ⟨ao, ac, rfl, hA4, hb4⟩; have HA4 : Hid (VRow w3.heap.size w4 (.slice ao vs.length ac) vs) := hA4; have HB4 : Hid (Below w.heap.size w w4) := HB3.out.trans (hb4.mono (by omega)); have HL4 : Hid (Lent w4 w1.heap.size ks (-77)) := rowOn HL3.out fun g e => hb4.block g (rowLt HL3.out e); have HW4 : Hid (VRow w2.heap.size w4 (.slice wo vs.length wc) vs) := rowOn HW3.out fun g e => hb4.block g (rowLt HW3.out e); have hs4 := hb4.size; clear hA4 hb4)
    | (go_at_call 28; refine (HBack.out _ _ HB4.out HL4.out).mono ?_; rintro e w5 ⟨rfl, hb5⟩; have HB5 : Hid (Below w.heap.size w w5) := hb5.below HB4.out hs1 (by omega); have HA5 : Hid (VRow w3.heap.size w5 (.slice ao vs.length ac) vs) := rowOn HA4.out fun g e => hb5.block g (rowLt HA4.out e) (by have := row_from HA4.out e; omega); have HW5 : Hid (VRow w2.heap.size w5 (.slice wo vs.length wc) vs) := rowOn HW4.out fun g e => hb5.block g (rowLt HW4.out e) (by have := row_from HW4.out e; omega); have hs5 := hb5.size; have HWl : Hid (∀ g, (Value.slice wo vs.length wc).ownBlock = some g → g < w3.heap.size) := (fun g e => rowLt HW3.out e); clear hb5)
    | (go_at_call 29; refine (HSame.out _ _ _ HA5.out.vals HW5.out.vals).mono ?_; rintro e w6 ⟨rfl, hb6⟩; have HB6 : Hid (Below w.heap.size w w6) := HB5.out.trans (hb6.mono (by omega)); have HA6 : Hid (VRow w3.heap.size w6 (.slice ao vs.length ac) vs) := rowOn HA5.out fun g e => hb6.block g (rowLt HA5.out e); have HW6 : Hid (VRow w2.heap.size w6 (.slice wo vs.length wc) vs) := rowOn HW5.out fun g e => hb6.block g (rowLt HW5.out e); have hs6 := hb6.size; clear hb6))
  have HP6 : Hid (∀ g, (Value.slice ao vs.length ac).ownBlock = some g → w3.heap.size ≤ g ∧ g < w6.heap.size) := fun g e => ⟨row_from HA6.out e, rowLt HA6.out e⟩
  clear HW3 HA4 HW4 HA5 HW5 HL2 HL3 HL4 HB1 HB2 HB3 HB4 HB5
  obtain ⟨n, hn⟩ : ∃ n, vs.length = n := ⟨_, rfl⟩
  have HVn : Hid (vs.length = n) := hn
  rw [hn] at hn6 HP6 HWl HRef HDec HA6 HW6 ⊢
  clear hn
  go_wp2_with fail
  obtain ⟨w7, hw7⟩ : ∃ w7, w6.alloc (vB m7) = w7 := ⟨_, rfl⟩
  have hw7' : w6.alloc (.cells #[.int .u64 7, .int .i64 7, .string ⟨#[]⟩] 62) = w7 := hw7
  rw [hw7']
  have H0 : Hid (Below w3.heap.size w6 w7 ∧ w7.heap[w6.heap.size]? = some (vB m7) ∧ ∃ L : List ValD, L.length = n ∧ VRow w3.heap.size w7 (.slice ao n ac) L) := by
    rw [← hw7]
    exact ⟨(belowA w6 _).mono (by omega), heap_alloc_new w6 _, vs, HVn.out, by unfold VRow; rw [HVn.out]; exact rowOn (by have := HA6.out; unfold VRow at this; rw [HVn.out] at this; exact this) fun g e => (belowA w6 (vB m7)).block g (HP6.out g e).2⟩
  clear hw7 hw7'
  go_loopg [15] n (fun gk s15 wr => ∃ i : Nat, s15 = .int .i64 i ∧ i ≤ n ∧ gk = n - i ∧ Hid (Below w3.heap.size w6 wr ∧ wr.heap[w6.heap.size]? = some (vB m7) ∧ ∃ L : List ValD, L.length = n ∧ VRow w3.heap.size wr (.slice ao n ac) L ∧ ∀ j, j < i → L[j]? = some m7))
  case atStart =>
    obtain ⟨q1, q2, L, q3, q4⟩ := H0.out
    exact ⟨0, rfl, by omega, rfl, q1, q2, L, q3, q4, fun j hj => by omega⟩
  case round =>
    obtain ⟨i, rfl, hi, rfl, HR⟩ := hrel
    by_cases hlt : i < n
    · have hltI : (i : Int) < (n : Int) := by omega
      obtain ⟨q1, q2, L, q3, q4, q5⟩ := HR.out
      obtain ⟨g, rfl, hg1, hg2⟩ := q4.block (by omega)
      have hg3 := (HP6.out g rfl).2
      obtain ⟨⟨a0, c0⟩, ⟨a1, c1⟩, ⟨a2, c2⟩, hfz⟩ := q4.cells (i := i) (by omega)
      obtain ⟨d0, d1, d2⟩ := vB_cells q2
      have hne : ¬ g = w6.heap.size := by omega
      have hne2 : ¬ w6.heap.size = g := by omega
      have HN : Hid (Below w3.heap.size w6 (((wr.setCell ⟨g, i * 3, none⟩ (.int .u64 7)).setCell ⟨g, i * 3 + 1, none⟩ (.int .i64 7)).setCell ⟨g, i * 3 + 2, none⟩ (.string ⟨#[]⟩)) ∧ (((wr.setCell ⟨g, i * 3, none⟩ (.int .u64 7)).setCell ⟨g, i * 3 + 1, none⟩ (.int .i64 7)).setCell ⟨g, i * 3 + 2, none⟩ (.string ⟨#[]⟩)).heap[w6.heap.size]? = some (vB m7) ∧ ∃ L : List ValD, L.length = n ∧ VRow w3.heap.size (((wr.setCell ⟨g, i * 3, none⟩ (.int .u64 7)).setCell ⟨g, i * 3 + 1, none⟩ (.int .i64 7)).setCell ⟨g, i * 3 + 2, none⟩ (.string ⟨#[]⟩)) (.slice (some ⟨g, 0, none⟩) n ac) L ∧ ∀ j, j < i + 1 → L[j]? = some m7) := by
        refine ⟨((q1.setCell hg1 _).setCell hg1 _).setCell hg1 _, ?_, L.set i m7, by simp [q3], VRow.lay q4 m7, fun j hj => ?_⟩
        · rw [Below.heap_setCell _ _ _ _ hne2, Below.heap_setCell _ _ _ _ hne2, Below.heap_setCell _ _ _ _ hne2]; exact q2
        · rw [List.getElem?_set]
          split
          · rename_i e; subst e; simp [q3, hlt]
          · exact q5 j (by omega)
      have hd0 : wr.cell? ⟨w6.heap.size, 0, none⟩ = some (.int .u64 7) := d0
      have hd1 : wr.cell? ⟨w6.heap.size, 1, none⟩ = some (.int .i64 7) := d1
      have hd2 : wr.cell? ⟨w6.heap.size, 2, none⟩ = some (.string ⟨#[]⟩) := d2
      clear q1 q2 q3 q4 q5 d0 d1 d2
      go_wp2_with fail
      go_roundg (n - (i + 1))
      case measure => omega
      case rel => exact ⟨i + 1, by go_num, by omega, rfl, HN.out⟩
    · have hltI : ¬ (i : Int) < (n : Int) := by omega
      obtain rfl : i = n := by omega
      have HA0 : Hid (App w6 w3.heap.size w6.heap.size (i) (.slice ao i ac) wr) := by
        obtain ⟨q1, q2, L, q3, q4, q5⟩ := HR.out
        have hL : L = Ms i := by
          apply List.ext_getElem?
          intro j
          by_cases hj : j < i
          · rw [q5 j hj, Ms_get i j hj]
          · rw [List.getElem?_eq_none (by omega), List.getElem?_eq_none (by simp; omega)]
        subst hL
        exact ⟨q1, by omega, q2, q4, fun e => by have := (HP6.out _ e).2; omega⟩
      clear HR H0 hi hlt
      as_aux_lemma =>
        have HMa : Hid (MsAt wr (.slice ao i ac) i) := MsAt.of_row HA0.out.row
        obtain ⟨d0, d1, d2⟩ := vB_cells HA0.out.mblk
        have hd0 : wr.cell? ⟨w6.heap.size, 0, none⟩ = some (.int .u64 7) := d0
        have hd1 : wr.cell? ⟨w6.heap.size, 1, none⟩ = some (.int .i64 7) := d1
        have hd2 : wr.cell? ⟨w6.heap.size, 2, none⟩ = some (.string ⟨#[]⟩) := d2
        have hsz := HA0.out.below.size
        have HO : Hid (wr.ownsRow w3.heap.size 62 3 (.slice ao i ac) (i) (flatV (Ms (i)))) := by
          have := HA0.out.row
          unfold VRow at this
          rw [List.length_replicate] at this
          exact this
        clear d0 d1 d2
        go_upto_region 15 with ((at_builtin; refine wpList_append_keep _ rfl _ _ _ rfl w3.heap.size 62 j0 (.agg #[.int .u64 0, .int .i64 0, .string ⟨#[]⟩]) 3 32 Try.underlying57 hj0 hy0 hy1 hy2 rfl (by omega) (.slice ao i ac) (i) (flatV (Ms (i))) rfl (World.ownsRow.alloc HO.out _) ⟨wr.heap.size, 0, none⟩ 1 1 (cellsV m7) rfl rfl (World.news_of_block (cs := #[.int .u64 7, .int .i64 7, .string ⟨#[]⟩]) (t := 62) (fr := (0, 0)) (heap_alloc_new wr _)) (by simp [cellsV, m7, Value.oneCell']) (by omega) (by unfold maxLen; omega) (by omega) (by simp; omega) ?_; intro g1 cp w8 hown hgrow hat hltg; have HA1 : Hid (App w6 w3.heap.size w6.heap.size (i + 1) (.slice (some ⟨g1, 0, none⟩) (i + 1) cp) w8) := HA0.out.step hown hgrow hat; have HMa1 : Hid (MsAt w8 (.slice ao i ac) i) := (HMa.out.on (belowA wr (vB m7))).grow (N := i) (by omega) hown hgrow hat; have HMp1 : Hid (MsAt w8 (.slice (some ⟨g1, 0, none⟩) (i + 1) cp) (i + 1)) := MsAt.of_row HA1.out.row; clear hown hgrow hat))
        clear HMa HO hd0 hd1 hd2 hsz
        obtain ⟨d0, d1, d2⟩ := vB_cells HA1.out.mblk
        have hd0 : w8.cell? ⟨w6.heap.size, 0, none⟩ = some (.int .u64 7) := d0
        have hd1 : w8.cell? ⟨w6.heap.size, 1, none⟩ = some (.int .i64 7) := d1
        have hd2 : w8.cell? ⟨w6.heap.size, 2, none⟩ = some (.string ⟨#[]⟩) := d2
        have hsz := HA1.out.below.size
        have HO : Hid (w8.ownsRow w3.heap.size 62 3 (.slice (some ⟨g1, 0, none⟩) (i + 1) cp) (i + 1) (flatV (Ms (i + 1)))) := by
          have := HA1.out.row
          unfold VRow at this
          rw [List.length_replicate] at this
          exact this
        clear d0 d1 d2
        go_upto_region 16 with ((at_builtin; refine wpList_append_keep _ rfl _ _ _ rfl w3.heap.size 62 j0 (.agg #[.int .u64 0, .int .i64 0, .string ⟨#[]⟩]) 3 32 Try.underlying57 hj0 hy0 hy1 hy2 rfl (by omega) (.slice (some ⟨g1, 0, none⟩) (i + 1) cp) (i + 1) (flatV (Ms (i + 1))) rfl (World.ownsRow.alloc HO.out _) ⟨w8.heap.size, 0, none⟩ 1 1 (cellsV m7) rfl rfl (World.news_of_block (cs := #[.int .u64 7, .int .i64 7, .string ⟨#[]⟩]) (t := 62) (fr := (0, 0)) (heap_alloc_new w8 _)) (by simp [cellsV, m7, Value.oneCell']) (by omega) (by unfold maxLen; omega) (by omega) (by simp; omega) ?_; intro g2 cq w9 hown hgrow hat hltg; have HA2 : Hid (App w6 w3.heap.size w6.heap.size (i + 1 + 1) (.slice (some ⟨g2, 0, none⟩) (i + 1 + 1) cq) w9) := HA1.out.step hown hgrow hat; have HMa2 : Hid (MsAt w9 (.slice ao i ac) i) := (HMa1.out.on (belowA w8 (vB m7))).grow (N := i + 1) (by omega) hown hgrow hat; have HMp2 : Hid (MsAt w9 (.slice (some ⟨g1, 0, none⟩) (i + 1) cp) (i + 1)) := (HMp1.out.on (belowA w8 (vB m7))).grow (N := i + 1) (by omega) hown hgrow hat; have HMq2 : Hid (MsAt w9 (.slice (some ⟨g2, 0, none⟩) (i + 1 + 1) cq) (i + 1 + 1)) := MsAt.of_row HA2.out.row; clear hown hgrow hat))
        clear HMa1 HMp1 HO hd0 hd1 hd2 hsz
        obtain ⟨d0, d1, d2⟩ := vB_cells HA2.out.mblk
        have hd0 : w9.cell? ⟨w6.heap.size, 0, none⟩ = some (.int .u64 7) := d0
        have hd1 : w9.cell? ⟨w6.heap.size, 1, none⟩ = some (.int .i64 7) := d1
        have hd2 : w9.cell? ⟨w6.heap.size, 2, none⟩ = some (.string ⟨#[]⟩) := d2
        have hsz := HA2.out.below.size
        have HO : Hid (w9.ownsRow w3.heap.size 62 3 (.slice (some ⟨g2, 0, none⟩) (i + 1 + 1) cq) (i + 1 + 1) (flatV (Ms (i + 1 + 1)))) := by
          have := HA2.out.row
          unfold VRow at this
          rw [List.length_replicate] at this
          exact this
        clear d0 d1 d2
        go_upto_region 17 with ((at_builtin; refine wpList_append_keep _ rfl _ _ _ rfl w3.heap.size 62 j0 (.agg #[.int .u64 0, .int .i64 0, .string ⟨#[]⟩]) 3 32 Try.underlying57 hj0 hy0 hy1 hy2 rfl (by omega) (.slice (some ⟨g2, 0, none⟩) (i + 1 + 1) cq) (i + 1 + 1) (flatV (Ms (i + 1 + 1))) rfl (World.ownsRow.alloc HO.out _) ⟨w9.heap.size, 0, none⟩ 1 1 (cellsV m7) rfl rfl (World.news_of_block (cs := #[.int .u64 7, .int .i64 7, .string ⟨#[]⟩]) (t := 62) (fr := (0, 0)) (heap_alloc_new w9 _)) (by simp [cellsV, m7, Value.oneCell']) (by omega) (by unfold maxLen; omega) (by omega) (by simp; omega) ?_; intro g3 cr w10 hown hgrow hat hltg; have HA3 : Hid (App w6 w3.heap.size w6.heap.size (i + 1 + 1 + 1) (.slice (some ⟨g3, 0, none⟩) (i + 1 + 1 + 1) cr) w10) := HA2.out.step hown hgrow hat; have HMa3 : Hid (MsAt w10 (.slice ao i ac) i) := (HMa2.out.on (belowA w9 (vB m7))).grow (N := i + 1 + 1) (by omega) hown hgrow hat; have HMp3 : Hid (MsAt w10 (.slice (some ⟨g1, 0, none⟩) (i + 1) cp) (i + 1)) := (HMp2.out.on (belowA w9 (vB m7))).grow (N := i + 1 + 1) (by omega) hown hgrow hat; have HMq3 : Hid (MsAt w10 (.slice (some ⟨g2, 0, none⟩) (i + 1 + 1) cq) (i + 1 + 1)) := (HMq2.out.on (belowA w9 (vB m7))).grow (N := i + 1 + 1) (by omega) hown hgrow hat; have HMr3 : Hid (MsAt w10 (.slice (some ⟨g3, 0, none⟩) (i + 1 + 1 + 1) cr) (i + 1 + 1 + 1)) := MsAt.of_row HA3.out.row; clear hown hgrow hat))
        clear HMa2 HMp2 HMq2 HO hd0 hd1 hd2 hsz
        have HB10 : Hid (Below w.heap.size w w10) := HB6.out.trans (HA3.out.below.mono (by omega))
        have HW10 : Hid (VRow w2.heap.size w10 (.slice wo i wc) vs) := rowOn HW6.out fun g e => HA3.out.below.block g (HWl.out g e)
        have HM10 : Hid (w10.heap[w6.heap.size]? = some (vB m7)) := HA3.out.mblk
        have hs10 := HA3.out.below.size
        have hs10' := HB10.out.size
        clear HA0 HA1 HA2 HA3 HA6 HW6 HB6 HP6 HWl
        go_upto_region 21 with (first
          | (go_at_call 26; refine (HLent.out _ HB10.out).mono ?_; rintro e w11 ⟨rfl, hL2, hb2⟩; have HL11 : Hid (Lent w11 w10.heap.size ks (-77)) := hL2; have HB11 : Hid (Below w10.heap.size w10 w11) := hb2; have hs11 : w10.heap.size < w11.heap.size := rowLt hL2 rfl; clear hL2 hb2)
          | (go_at_call 25; refine (HDec.out _ _ HL11.out).mono ?_; rintro e w12 ⟨bo, bc, rfl, hA4, hb4⟩; have HA12 : Hid (VRow w11.heap.size w12 (.slice bo i bc) vs) := hA4; have HB12 : Hid (Below w10.heap.size w10 w12) := HB11.out.trans (hb4.mono (by omega)); have HL12 : Hid (Lent w12 w10.heap.size ks (-77)) := rowOn HL11.out fun g e => hb4.block g (rowLt HL11.out e); have hs12 := hb4.size; clear hA4 hb4)
          | (go_at_call 28; refine (HBack.out _ _ (HB10.out.trans (HB12.out.mono hs10')) HL12.out).mono ?_; rintro e w13 ⟨rfl, hb5⟩; have HB13 : Hid (Below w10.heap.size w10 w13) := hb5.below HB12.out (Nat.le_refl _) (by omega); have HA13 : Hid (VRow w11.heap.size w13 (.slice bo i bc) vs) := rowOn HA12.out fun g e => hb5.block g (rowLt HA12.out e) (by have := row_from HA12.out e; omega); have HW13 : Hid (VRow w2.heap.size w13 (.slice wo i wc) vs) := rowOn HW10.out fun g e => HB13.out.block g (rowLt HW10.out e); have hs13 := hb5.size; clear hb5)
          | (go_at_call 29; refine (HSame.out _ _ _ HA13.out.vals HW13.out.vals).mono ?_; rintro e w14 ⟨rfl, hb6⟩; have HB14 : Hid (Below w10.heap.size w10 w14) := HB13.out.trans (hb6.mono (by omega)); have HA14 : Hid (VRow w11.heap.size w14 (.slice bo i bc) vs) := rowOn HA13.out fun g e => hb6.block g (rowLt HA13.out e); have hs14 := hb6.size; clear hb6))
        clear HW10 HA12 HL11 HL12 HA13 HW13 HB11 HB12 HB13 HLent HRef HDec HBack HSame
        rename_i wrOld
        go_wp2_with fail
        go_loopg [23] i (fun gk s23 wr => ∃ j : Nat, s23 = .int .i64 j ∧ j ≤ i ∧ gk = i - j ∧ Hid (Below w10.heap.size w10 wr ∧ w11.heap.size ≤ wr.heap.size ∧ ∃ L : List ValD, L.length = i ∧ VRow w11.heap.size wr (.slice bo i bc) L ∧ ∀ k, k < j → L[k]? = some ⟨8, 0, []⟩))
        case atStart => exact ⟨0, rfl, by omega, rfl, HB14.out, by omega, vs, HVn.out, HA14.out, fun j hj => by omega⟩
        case round =>
          obtain ⟨j, rfl, hj, rfl, HR⟩ := hrel
          by_cases hlt : j < i
          · have hltI : (j : Int) < (i : Int) := by omega
            obtain ⟨q1, q0, L, q3, q4, q5⟩ := HR.out
            obtain ⟨g, rfl, hg1, hg2⟩ := q4.block (by omega)
            obtain ⟨⟨a0, c0⟩, ⟨a1, c1⟩, ⟨a2, c2⟩, hfz⟩ := q4.cells (i := j) (by omega)
            have HN : Hid (Below w10.heap.size w10 (((wr.setCell ⟨g, j * 3, none⟩ (.int .u64 8)).setCell ⟨g, j * 3 + 1, none⟩ (.int .i64 0)).setCell ⟨g, j * 3 + 2, none⟩ (.string ⟨#[]⟩)) ∧ w11.heap.size ≤ (((wr.setCell ⟨g, j * 3, none⟩ (.int .u64 8)).setCell ⟨g, j * 3 + 1, none⟩ (.int .i64 0)).setCell ⟨g, j * 3 + 2, none⟩ (.string ⟨#[]⟩)).heap.size ∧ ∃ L : List ValD, L.length = i ∧ VRow w11.heap.size (((wr.setCell ⟨g, j * 3, none⟩ (.int .u64 8)).setCell ⟨g, j * 3 + 1, none⟩ (.int .i64 0)).setCell ⟨g, j * 3 + 2, none⟩ (.string ⟨#[]⟩)) (.slice (some ⟨g, 0, none⟩) i bc) L ∧ ∀ k, k < j + 1 → L[k]? = some ⟨8, 0, []⟩) := by
              have hgw : w10.heap.size ≤ g := by omega
              refine ⟨((q1.setCell hgw _).setCell hgw _).setCell hgw _, by simp [World.setCell]; omega, L.set j ⟨8, 0, []⟩, by simp [q3], VRow.lay q4 ⟨8, 0, []⟩, fun k hk => ?_⟩
              rw [List.getElem?_set]
              split
              · rename_i e; subst e; simp [q3, hlt]
              · exact q5 k (by omega)
            clear q1 q0 q3 q4 q5
            go_wp2_with fail
            go_roundg (i - (j + 1))
            case measure => omega
            case rel => exact ⟨j + 1, by go_num, by omega, rfl, HN.out⟩
          · have hltI : ¬ (j : Int) < (i : Int) := by omega
            obtain rfl : j = i := by omega
            rename World => wb
            obtain ⟨q1, q0, L, q3, q4, q5⟩ := HR.out
            have HO : Hid (wb.ownsRow w11.heap.size 62 3 (.slice bo j bc) j (flatV L)) := by unfold VRow at q4; rw [q3] at q4; exact q4
            have HB : Hid (Below w10.heap.size w10 wb) := q1
            have hsb := q1.size
            have HApp : Hid (∀ g cap' w', w'.ownsRow w11.heap.size 62 3 (.slice (some ⟨g, 0, none⟩) (j + 1) cap') (j + 1) (flatV L ++ cellsV ⟨8, 0, []⟩) → (wb.alloc (vB ⟨8, 0, []⟩)).grownBy w' (Value.slice bo j bc).ownBlock → Below w10.heap.size w10 w' ∧ j + 1 ≤ cap' ∧ ∀ k, k < j + 1 → w'.cell? ⟨g, k * 3, none⟩ = some (.int .u64 8)) := fun g cap' w' hown hgrow => by
              refine ⟨below_grew (q1.alloc (by omega) _) hgrow (fun g' e => by have := row_from q4 e; omega) (by simp; omega), ?_, fun k hk => ?_⟩
              · have hv : VRow w11.heap.size w' (.slice (some ⟨g, 0, none⟩) (j + 1) cap') (L ++ [⟨8, 0, []⟩]) := by
                  unfold VRow; rw [flatV_snoc, List.length_append, q3]; exact hown
                exact hv.lens.2
              · rw [← flatV_snoc] at hown
                have hget : (L ++ [(⟨8, 0, []⟩ : ValD)])[k]? = some ⟨8, 0, []⟩ := by
                  by_cases hkj : k < j
                  · rw [List.getElem?_append_left (by omega)]; exact q5 k hkj
                  · have : k = L.length := by omega
                    rw [this]; simp
                exact rowCells hown (flatV_get _ k _ hget).1
            have e8 : ∀ w1 : World, w1.alloc (.cells #[.int .u64 8, .int .i64 0, .string ⟨#[]⟩] 62) = w1.alloc (vB ⟨8, 0, []⟩) := fun _ => rfl
            clear q1 q3 q4 q5 HR hlt
            go_upto_region 26 with ((at_builtin; refine wpList_append_lies _ rfl _ _ _ rfl w11.heap.size 62 j0 (.agg #[.int .u64 0, .int .i64 0, .string ⟨#[]⟩]) 3 32 Try.underlying57 hj0 hy0 hy1 hy2 rfl (by omega) (.slice bo j bc) j _ rfl (World.ownsRow.alloc HO.out _) ⟨wb.heap.size, 0, none⟩ 1 1 (cellsV ⟨8, 0, []⟩) rfl rfl (World.news_of_block (cs := #[.int .u64 8, .int .i64 0, .string ⟨#[]⟩]) (t := 62) (fr := (0, 0)) (heap_alloc_new wb _)) (by simp [cellsV, Value.oneCell']) (by omega) (by unfold maxLen; omega) (by omega) (by simp; omega) _ rfl ?_; intro g4 cc w20 hown hgrow hat hltg; have hN := HApp.out g4 cc w20 hown hgrow; have HN : Hid (Below w10.heap.size w10 w20 ∧ j + 1 ≤ cc ∧ ∀ k, k < j + 1 → w20.cell? ⟨g4, k * 3, none⟩ = some (.int .u64 8)) := hN; clear hN hown hgrow hat))
            clear HApp HO e8
            have HMa4 : Hid (MsAt w20 (.slice ao j ac) j) := HMa3.out.on HN.out.1
            have HMp4 : Hid (MsAt w20 (.slice (some ⟨g1, 0, none⟩) (j + 1) cp) (j + 1)) := HMp3.out.on HN.out.1
            have HMq4 : Hid (MsAt w20 (.slice (some ⟨g2, 0, none⟩) (j + 1 + 1) cq) (j + 1 + 1)) := HMq3.out.on HN.out.1
            have HMr4 : Hid (MsAt w20 (.slice (some ⟨g3, 0, none⟩) (j + 1 + 1 + 1) cr) (j + 1 + 1 + 1)) := HMr3.out.on HN.out.1
            have HM20 : Hid (w20.heap[w6.heap.size]? = some (vB m7)) := (HN.out.1.block _ (Array.getElem?_eq_some_iff.mp HM10.out).1).trans HM10.out
            have HBe : Hid (Below w.heap.size w w20) := HB10.out.trans (HN.out.1.mono hs10')
            have hse := HBe.out.size
            have HC8 : Hid (∀ k, k < j + 1 → w20.cell? ⟨g4, k * 3, none⟩ = some (.int .u64 8)) := HN.out.2.2
            have hcc := HN.out.2.1
            have hcaps : j + 1 ≤ cp ∧ j + 1 + 1 ≤ cq ∧ j + 1 + 1 + 1 ≤ cr ∧ j ≤ ac := by
              obtain ⟨_, _, _, e1, h1, _⟩ := HMp4.out
              obtain ⟨_, _, _, e2, h2, _⟩ := HMq4.out
              obtain ⟨_, _, _, e3, h3, _⟩ := HMr4.out
              obtain ⟨_, _, _, e4, h4, _⟩ := HMa4.out
              simp only [Value.slice.injEq] at e1 e2 e3 e4
              omega
            clear HMa3 HMp3 HMq3 HMr3 HN HM10 HB10 HB14 HA14 HB
            as_aux_lemma =>
              go_wp2_with fail
              go_loopg [25, 26] (j + 1 + 1 + 1) (fun gk s25 s26 wr => ∃ k : Nat, s26 = .int .i64 k ∧ k ≤ j + 1 + 1 + 1 ∧ gk = j + 1 + 1 + 1 - k ∧ s25 = .bool true ∧ Hid (Below w20.heap.size w20 wr))
              case atStart => exact ⟨0, rfl, by omega, rfl, rfl, Below.refl _ _⟩
              case round =>
                obtain ⟨k, rfl, hk, rfl, rfl, HB⟩ := hrel
                by_cases hlt : k < j + 1 + 1 + 1
                · have hltI : (k : Int) < (j : Int) + 1 + 1 + 1 := by omega
                  obtain ⟨r0, r1, r2⟩ := (HMr4.out.on HB.out).cell (k := k) hlt
                  have hm20 := (HB.out.block _ (Array.getElem?_eq_some_iff.mp HM20.out).1).trans HM20.out
                  obtain ⟨d0, d1, d2⟩ := vB_cells hm20
                  have hd0 : wr.cell? ⟨w6.heap.size, 0, none⟩ = some (.int .u64 7) := d0
                  have hd1 : wr.cell? ⟨w6.heap.size, 1, none⟩ = some (.int .i64 7) := d1
                  have hd2 : wr.cell? ⟨w6.heap.size, 2, none⟩ = some (.string ⟨#[]⟩) := d2
                  clear d0 d1 d2 hm20
                  by_cases h1 : k < j
                  · as_aux_lemma =>
                      have la : ¬ (j : Int) ≤ (k : Int) := by omega
                      have lad : decide ((j : Int) ≤ (k : Int)) = false := by simp; omega
                      have lp : ¬ (j : Int) + 1 ≤ (k : Int) := by omega
                      have lpd : decide ((j : Int) + 1 ≤ (k : Int)) = false := by simp; omega
                      have lq : ¬ (j : Int) + 1 + 1 ≤ (k : Int) := by omega
                      have lqd : decide ((j : Int) + 1 + 1 ≤ (k : Int)) = false := by simp; omega
                      obtain ⟨ga, rfl⟩ := HMa4.out.at (by omega)
                      obtain ⟨a0, a1, a2⟩ := (HMa4.out.on HB.out).cell (k := k) (by omega)
                      have kp : k < j + 1 := by omega
                      obtain ⟨p0, p1, p2⟩ := (HMp4.out.on HB.out).cell (k := k) (by omega)
                      have kq : k < j + 1 + 1 := by omega
                      obtain ⟨q0, q1, q2⟩ := (HMq4.out.on HB.out).cell (k := k) (by omega)
                      skip
                      go_wp2_with fail
                      go_quiet (fail)
                      go_wp2_with fail
                      go_roundg (j + 1 + 1 + 1 - (k + 1))
                      case measure => omega
                      case rel => exact ⟨k + 1, by go_num, by omega, rfl, rfl, belowN HB.out _⟩
                  · by_cases h2 : k = j
                    · as_aux_lemma =>
                        have la : (j : Int) ≤ (k : Int) := by omega
                        have lad : decide ((j : Int) ≤ (k : Int)) = true := by simp; omega
                        have lp : ¬ (j : Int) + 1 ≤ (k : Int) := by omega
                        have lpd : decide ((j : Int) + 1 ≤ (k : Int)) = false := by simp; omega
                        have lq : ¬ (j : Int) + 1 + 1 ≤ (k : Int) := by omega
                        have lqd : decide ((j : Int) + 1 + 1 ≤ (k : Int)) = false := by simp; omega
                        have kp : k < j + 1 := by omega
                        obtain ⟨p0, p1, p2⟩ := (HMp4.out.on HB.out).cell (k := k) (by omega)
                        have kq : k < j + 1 + 1 := by omega
                        obtain ⟨q0, q1, q2⟩ := (HMq4.out.on HB.out).cell (k := k) (by omega)
                        clear h1 h2
                        go_wp2_with fail
                        go_quiet (fail)
                        go_wp2_with fail
                        go_roundg (j + 1 + 1 + 1 - (k + 1))
                        case measure => omega
                        case rel => exact ⟨k + 1, by go_num, by omega, rfl, rfl, belowN HB.out _⟩
                    · by_cases h3 : k = j + 1
                      · as_aux_lemma =>
                          have la : (j : Int) ≤ (k : Int) := by omega
                          have lad : decide ((j : Int) ≤ (k : Int)) = true := by simp; omega
                          have lp : (j : Int) + 1 ≤ (k : Int) := by omega
                          have lpd : decide ((j : Int) + 1 ≤ (k : Int)) = true := by simp; omega
                          have lq : ¬ (j : Int) + 1 + 1 ≤ (k : Int) := by omega
                          have lqd : decide ((j : Int) + 1 + 1 ≤ (k : Int)) = false := by simp; omega
                          have kq : k < j + 1 + 1 := by omega
                          obtain ⟨q0, q1, q2⟩ := (HMq4.out.on HB.out).cell (k := k) (by omega)
                          clear h1 h2 h3
                          go_wp2_with fail
                          go_quiet (fail)
                          go_wp2_with fail
                          go_roundg (j + 1 + 1 + 1 - (k + 1))
                          case measure => omega
                          case rel => exact ⟨k + 1, by go_num, by omega, rfl, rfl, belowN HB.out _⟩
                      · as_aux_lemma =>
                          have la : (j : Int) ≤ (k : Int) := by omega
                          have lad : decide ((j : Int) ≤ (k : Int)) = true := by simp; omega
                          have lp : (j : Int) + 1 ≤ (k : Int) := by omega
                          have lpd : decide ((j : Int) + 1 ≤ (k : Int)) = true := by simp; omega
                          have lq : (j : Int) + 1 + 1 ≤ (k : Int) := by omega
                          have lqd : decide ((j : Int) + 1 + 1 ≤ (k : Int)) = true := by simp; omega
                          clear h1 h2 h3
                          go_wp2_with fail
                          go_quiet (fail)
                          go_wp2_with fail
                          go_roundg (j + 1 + 1 + 1 - (k + 1))
                          case measure => omega
                          case rel => exact ⟨k + 1, by go_num, by omega, rfl, rfl, belowN HB.out _⟩
                · have hltI : ¬ (k : Int) < (j : Int) + 1 + 1 + 1 := by omega
                  rename World => wd
                  have HBd : Hid (Below w20.heap.size w20 wd) := HB.out
                  clear HMa4 HMp4 HMq4 HMr4 HM20 HB
                  go_wp2_with fail
                  go_loopg [25, 27] (j + 1) (fun gk s25 s27 wr => ∃ k : Nat, s27 = .int .i64 k ∧ k ≤ j + 1 ∧ gk = j + 1 - k ∧ s25 = .bool true ∧ Hid (Below w20.heap.size w20 wr))
                  case atStart => exact ⟨0, rfl, by omega, rfl, rfl, HBd.out⟩
                  case round =>
                    obtain ⟨q, rfl, hq, rfl, rfl, HB⟩ := hrel
                    by_cases hltq : q < j + 1
                    · have hltqI : (q : Int) < (j : Int) + 1 := by omega
                      have c8 := cell_later HB.out (HC8.out q hltq)
                      go_wp2_with fail
                      go_roundg (j + 1 - (q + 1))
                      case measure => omega
                      case rel => exact ⟨q + 1, by go_num, by omega, rfl, rfl, HB.out⟩
                    · have hltqI : ¬ (q : Int) < (j : Int) + 1 := by omega
                      go_wp2_with ((go_at_call 30; refine (HNum.out _ _).mono ?_; rintro e w9 ⟨rfl, hw9⟩; subst hw9))
                      go_ret
                      exact ⟨rfl, HBe.out.trans (HB.out.mono hse)⟩

end Go.Proofs.Ytcgjppacnhmjlaa
