/- Apart: the walk. -/
import Derived.Test.YtcgjppacnhmjlaaFourA
set_option linter.unusedVariables false
set_option linter.unusedSimpArgs false
namespace Go.Proofs.Ytcgjppacnhmjlaa
open Go.RowKit
attribute [local go_sem ↓] Go.wp_at_zero Go.wp_at_succ

def oneB : ByteArray := ⟨#[111, 110, 101]⟩
def twoB : ByteArray := ⟨#[116, 119, 111]⟩
def threeB : ByteArray := ⟨#[116, 104, 114, 101, 101]⟩
def xB : ByteArray := ⟨#[120]⟩
/-- The six numbers of a shape. -/
def Sh6 (w : World) (b : Nat) (c : Nat → Nat) (g : Nat) : Prop := w.cell? ⟨b, 0, none⟩ = some (.int .i64 (c 0)) ∧ w.cell? ⟨b, 1, none⟩ = some (.int .i64 (c 1)) ∧ w.cell? ⟨b, 2, none⟩ = some (.int .i64 (c 2)) ∧ w.cell? ⟨b, 3, none⟩ = some (.int .i64 (c 3)) ∧ w.cell? ⟨b, 4, none⟩ = some (.int .i64 (c 4)) ∧ w.cell? ⟨b, 5, none⟩ = some (.int .i64 g)
theorem StrsAt.open {w : World} {v : Value} {ss : List ByteArray} (h : StrsAt w v ss) : ∃ ao c, v = .slice ao ss.length c ∧ ∀ (i : Nat) s, ss[i]? = some s → ∃ k o, ao = some ⟨k, o, none⟩ ∧ w.cell? ⟨k, o + i, none⟩ = some (.string s) := by
  rcases h with ⟨rfl, ao, c, rfl⟩ | ⟨k, o, c, rfl, h2⟩
  · exact ⟨ao, c, rfl, fun i s hs => by simp at hs⟩
  · exact ⟨_, c, rfl, fun i s hs => ⟨k, o, rfl, h2 i s hs⟩⟩

set_option maxRecDepth 100000 in
set_option maxHeartbeats 8000000 in
theorem apart_any {w : World} {kv ov gv : Value} {ks os gs : List ByteArray} (hk : StrsAt w kv ks) (ho : StrsAt w ov os) (hg : StrsAt w gv gs) (hkl : ks.length ≤ 9223372036854775807) (hol : os.length ≤ 9223372036854775807) (hgl : gs.length ≤ 9223372036854775807) (hks : ∀ s ∈ ks, s.size ≤ 9223372036854775807) (hos : ∀ s ∈ os, s.size ≤ 9223372036854775807) (hgs : ∀ s ∈ gs, s.size ≤ 9223372036854775807) :
    Calls Try.prog 5 #[kv, ov, gv] w fun e w' => e = .returned (.bool true) ∧ Below w.heap.size w w' := by
  have hL300 : (shortOf ks).length ≤ 300 := by rw [shortOf_len]; omega
  have hM300 : (shortOf os).length ≤ 300 := by rw [shortOf_len]; omega
  have HL64 : Hid (∀ s ∈ shortOf ks, s.size ≤ 64) := fun s hs => by obtain ⟨a, _, rfl⟩ := List.mem_map.mp hs; exact cut64_size a
  have HM64 : Hid (∀ s ∈ shortOf os, s.size ≤ 64) := fun s hs => by obtain ⟨a, _, rfl⟩ := List.mem_map.mp hs; exact cut64_size a
  have HG64 : Hid (∀ s ∈ gs, s.size ≤ 9223372036854775807) := hgs
  obtain ⟨ga, gc, rfl, hgc⟩ := hg.open
  have HGC : Hid (∀ (i : Nat) s, gs[i]? = some s → ∃ k o, ga = some ⟨k, o, none⟩ ∧ w.cell? ⟨k, o + i, none⟩ = some (.string s)) := hgc
  have HA : Hid (Calls Try.prog 8 #[] w fun e w' => e = .returned (.bool true) ∧ Below w.heap.size w w') := awake_any w
  have HS1 : Hid (∀ w1, Below w.heap.size w w1 → Calls Try.prog 9 #[kv] w1 fun e w' => ∃ ao c, e = .returned (.slice ao (shortOf ks).length c) ∧ RowS (fun k => w.heap.size ≤ k) w' ao (shortOf ks) ∧ Below w.heap.size w w') := fun w1 hb => (short_row (hk.on hb) hkl hks).mono fun e w' he => by
    obtain ⟨ao, c, h1, h2, h3⟩ := he
    exact ⟨ao, c, h1, h2.weaken (fun k h4 _ => Nat.le_trans hb.size h4), hb.trans (h3.mono hb.size)⟩
  have HS2 : Hid (∀ w1, Below w.heap.size w w1 → Calls Try.prog 9 #[ov] w1 fun e w' => ∃ ao c, e = .returned (.slice ao (shortOf os).length c) ∧ RowS (fun k => w1.heap.size ≤ k) w' ao (shortOf os) ∧ Below w1.heap.size w1 w') := fun w1 hb => short_row (ho.on hb) hol hos
  clear hk ho hks hos hg hgc hgs
  generalize hLd : shortOf ks = L at *
  generalize hMd : shortOf os = M at *
  clear hLd hMd
  obtain ⟨gn, hgn⟩ : ∃ gn, gs.length = gn := ⟨_, rfl⟩
  rw [hgn] at hgl ⊢
  have HGn : Hid (gs.length = gn) := hgn
  clear hgn
  go_enter Try.func5, Try.ntmps5
  go_wp2_with (first
    | (go_at_call 8; refine HA.out.mono ?_; rintro e w1 ⟨rfl, hb1⟩)
    | (go_at_call_of 9 kv; refine (HS1.out _ hb1).mono ?_; rintro e w2 ⟨la, lc, rfl, hrl, hb2⟩)
    | (go_at_call_of 9 ov; refine (HS2.out _ hb2).mono ?_; rintro e w3 ⟨ma, mc, rfl, hrm, hb3⟩)
    | (go_at_call 10; refine (new_any _).mono ?_; rintro e w' ⟨rfl, rfl⟩))
  have HT0 : Hid (Two w3.heap.size (w3.heap.size + 1) w ((w3.alloc (.cells #[.pointer none] 78)).alloc (.cells #[.pointer none] 78)) la ma L M [] []) := two_start2 hb2 hrl hb3 hrm
  clear hb1 hb2 hrl hb3 hrm
  generalize w3.heap.size = x at *
  generalize (w3.alloc (.cells #[.pointer none] 78)).alloc (.cells #[.pointer none] 78) = w4 at *
  go_loopg [12] L.length (fun gk s12 wr => ∃ j : Nat, j ≤ L.length ∧ gk + j = L.length ∧ s12 = .int .i64 j ∧ Hid (Two x (x + 1) w wr la ma L M (pv oneB L j []) []))
  case atStart => exact ⟨0, Nat.zero_le _, by omega, rfl, HT0.out⟩
  case round =>
    clear HT0
    obtain ⟨j, hj, hg, rfl, HT⟩ := hrel
    by_cases hlt : j < L.length
    · obtain ⟨s, hs⟩ : ∃ s, L[j]? = some s := ⟨L[j], List.getElem?_eq_getElem hlt⟩
      obtain ⟨km, hla, hcm⟩ := HT.out.keyL hlt
      have hcell := hcm j s hs
      have HP : Hid (Calls Try.prog 11 #[.pointer (some ⟨x, 0, none⟩), .string s, .string oneB] wr fun e w' => (∃ a b, e = .returned (.tuple #[.string a, .bool b, .int .i64 0])) ∧ Two x (x + 1) w w' la ma L M (pv oneB L (j + 1) []) []) := by
        rw [pv_succ oneB L j s _ hs]
        exact two_putX HT.out (HL64.out s (List.mem_of_getElem? hs)) (by have := len_pv oneB L j [] List.Pairwise.nil; simp at this; omega)
      clear hs hcm
      subst hla
      unfold oneB at HP
      go_wp2_with (go_at_call 11; refine HP.out.mono ?_; rintro e w' ⟨⟨a, b, rfl⟩, hT'⟩)
      go_roundg (gk - 1)
      case measure => omega
      case rel => exact ⟨j + 1, by omega, by omega, by go_num, hT'⟩
    · have ej : j = L.length := by omega
      subst ej
      have HT1 : Hid (Two x (x + 1) w wr la ma L M (pv oneB L L.length []) []) := HT.out
      clear HT hj hg hlt
      have HX : Hid (Srt (pv oneB L L.length []) ∧ (pv oneB L L.length []).length ≤ 300 ∧ ∀ s ∈ L, lk (kof s) (pv oneB L L.length []) = some oneB) := ⟨srt_pv _ _ _ _ List.Pairwise.nil, by have := len_pv oneB L L.length [] List.Pairwise.nil; simp at this; omega, fun s hs => lk_pv oneB L [] List.Pairwise.nil hs⟩
      generalize pv oneB L L.length [] = X at *
      go_wp2
      go_loopg [13] M.length (fun gk s13 wr => ∃ j : Nat, j ≤ M.length ∧ gk + j = M.length ∧ s13 = .int .i64 j ∧ Hid (Two x (x + 1) w wr la ma L M X (pv twoB M j [])))
      case atStart => exact ⟨0, Nat.zero_le _, by omega, rfl, HT1.out⟩
      case round =>
        clear HT1
        obtain ⟨j, hj, hg, rfl, HT⟩ := hrel
        by_cases hlt : j < M.length
        · obtain ⟨s, hs⟩ : ∃ s, M[j]? = some s := ⟨M[j], List.getElem?_eq_getElem hlt⟩
          obtain ⟨km, hma, hcm⟩ := HT.out.keyM hlt
          have hcell := hcm j s hs
          have HP : Hid (Calls Try.prog 11 #[.pointer (some ⟨x + 1, 0, none⟩), .string s, .string twoB] wr fun e w' => (∃ a b, e = .returned (.tuple #[.string a, .bool b, .int .i64 0])) ∧ Two x (x + 1) w w' la ma L M X (pv twoB M (j + 1) [])) := by
            rw [pv_succ twoB M j s _ hs]
            exact two_putY HT.out (HM64.out s (List.mem_of_getElem? hs)) (by have := len_pv twoB M j [] List.Pairwise.nil; simp at this; omega)
          clear hs hcm
          subst hma
          unfold twoB at HP
          go_wp2_with (go_at_call 11; refine HP.out.mono ?_; rintro e w' ⟨⟨a, b, rfl⟩, hT'⟩)
          go_roundg (gk - 1)
          case measure => omega
          case rel => exact ⟨j + 1, by omega, by omega, by go_num, hT'⟩
        · have ej : j = M.length := by omega
          subst ej
          have HT2 : Hid (Two x (x + 1) w wr la ma L M X (pv twoB M M.length [])) := HT.out
          clear HT hj hg hlt
          have HY : Hid ((pv twoB M M.length []).length ≤ 300 ∧ uni X (pv twoB M M.length []) = pv twoB M M.length X) := ⟨by have := len_pv twoB M M.length [] List.Pairwise.nil; simp at this; omega, pv_uni twoB M HX.out.1⟩
          generalize pv twoB M M.length [] = Y at *
          obtain ⟨c, g, hcg⟩ := idx_shapeL HT2.out.ix
          have HIX : Hid (∀ w1, Below wr.heap.size wr w1 → IndexAt (fun k => Sxy x (x + 1) k ∧ k < wr.heap.size) w1 x X) := fun w1 hb => (HT2.out.ix.weaken (S' := fun k => Sxy x (x + 1) k ∧ k < wr.heap.size) (fun k h1 h2 => ⟨h1, h2⟩) (fun e => e.1.1 rfl)).on hb
          have HCp : Hid (∀ w1, Below wr.heap.size wr w1 → Calls Try.prog 17 #[.pointer (some ⟨x, 0, none⟩)] w1 fun e w' => e = .returned (.pointer (some ⟨w1.heap.size, 0, none⟩)) ∧ Hid (NewIx (fun k => Sxy x (x + 1) k ∧ k < wr.heap.size) w' w1.heap.size X) ∧ Hid (w1.heap.size < w'.heap.size ∧ Below w1.heap.size w1 w')) := fun w1 hb => (indexCopy_any (HIX.out w1 hb)).mono fun e w' he => ⟨he.1, he.2.1, he.2.2⟩
          have HSh : Hid (∀ S w1 z, IndexAt S w1 z X → Calls Try.prog 14 #[.pointer (some ⟨z, 0, none⟩)] w1 fun e w' => e = .returned (shapeV c g) ∧ Below w1.heap.size w1 w') := fun S w1 z h => idx_shape hcg h
          clear hcg
          unfold shapeV at HSh
          go_wp2_with (first
            | (go_at_call 17; refine (HCp.out _ (Below.refl _ _)).mono ?_; rintro e w5 ⟨rfl, HN1, HB1⟩)
            | (go_at_call 17; refine (HCp.out _ HB1.out.2).mono ?_; rintro e w6 ⟨rfl, HN2, HB2⟩; have HF0 : Hid (Four (fun k => k ≠ x ∧ k ≠ (x + 1) ∧ k ≠ wr.heap.size ∧ k ≠ w5.heap.size) x (x + 1) wr.heap.size w5.heap.size w w6 la ma L M X Y X X []) := four_start HT2.out HN1.out HB1.out.1 HB1.out.2 HN2.out HB2.out.1 HB2.out.2)
            | (go_at_call 14; refine (HSh.out _ _ _ HF0.out.ix).mono ?_; rintro e w7 ⟨rfl, hb7⟩; have HF1 : Hid (Four (fun k => k ≠ x ∧ k ≠ (x + 1) ∧ k ≠ wr.heap.size ∧ k ≠ w5.heap.size) x (x + 1) wr.heap.size w5.heap.size w (w7.alloc (shp c g)) la ma L M X Y X X [(w7.heap.size, shp c g)]) := (HF0.out.on hb7).keep)
            | (go_at_call 18; refine (four_union HF1.out (by have := HX.out.2.1; have := HY.out.1; omega)).mono ?_; rintro e w8 ⟨rfl, hF8⟩))
          rw [HY.out.2] at hF8
          have HF2 : Hid (Four (fun k => k ≠ x ∧ k ≠ (x + 1) ∧ k ≠ wr.heap.size ∧ k ≠ w5.heap.size) x (x + 1) wr.heap.size w5.heap.size w w8 la ma L M X Y (pv twoB M M.length X) X [(w7.heap.size, shp c g)]) := hF8
          clear hF8 HF1 HF0 HT2 HIX HCp HN1 HB1 HN2 HB2 hb7
          generalize (fun k => k ≠ x ∧ k ≠ (x + 1) ∧ k ≠ wr.heap.size ∧ k ≠ w5.heap.size) = S at *
          generalize wr.heap.size = p at *
          generalize w5.heap.size = q at *
          generalize w7.heap.size = sb at *
          have HPf : Hid (Srt (pv twoB M M.length X) ∧ (pv twoB M M.length X).length ≤ 600 ∧ (∀ s ∈ M, lk (kof s) (pv twoB M M.length X) = some twoB) ∧ ∀ s ∈ L, ∃ u, lk (kof s) (pv twoB M M.length X) = some u) := ⟨srt_pv _ _ _ _ HX.out.1, by have := len_pv twoB M M.length X HX.out.1; have := HX.out.2.1; omega, fun s hs => lk_pv twoB M X HX.out.1 hs, fun s hs => lk_pv2 twoB oneB M X HX.out.1 (HX.out.2.2 s hs)⟩
          have HQl : Hid (∀ j, (pv twoB M j X).length ≤ 600) := fun j => by have := len_pv twoB M j X HX.out.1; have := HX.out.2.1; omega
          generalize hPd : pv twoB M M.length X = P at *
          have HPd : Hid (pv twoB M M.length X = P) := hPd
          clear hPd
          go_wp2
          go_loopg [18] M.length (fun gk s18 wr => ∃ j : Nat, j ≤ M.length ∧ gk + j = M.length ∧ s18 = .int .i64 j ∧ Hid (Four S x (x + 1) p q w wr la ma L M X Y P (pv twoB M j X) [(sb, shp c g)]))
          case atStart => exact ⟨0, Nat.zero_le _, by omega, rfl, HF2.out⟩
          case round =>
            clear HF2
            obtain ⟨j, hj, hg, rfl, HT⟩ := hrel
            by_cases hlt : j < M.length
            · obtain ⟨s, hs⟩ : ∃ s, M[j]? = some s := ⟨M[j], List.getElem?_eq_getElem hlt⟩
              obtain ⟨km, hma, hcm⟩ := HT.out.rm.at hlt
              have hcell := hcm j s hs
              have HP : Hid (Calls Try.prog 11 #[.pointer (some ⟨q, 0, none⟩), .string s, .string twoB] wr fun e w' => (∃ a b, e = .returned (.tuple #[.string a, .bool b, .int .i64 0])) ∧ Four S x (x + 1) p q w w' la ma L M X Y P (pv twoB M (j + 1) X) [(sb, shp c g)]) := by
                rw [pv_succ twoB M j s _ hs]
                exact four_putQ HT.out (HM64.out s (List.mem_of_getElem? hs)) (by have := HQl.out j; omega)
              clear hs hcm
              subst hma
              unfold twoB at HP
              go_wp2_with (go_at_call 11; refine HP.out.mono ?_; rintro e w' ⟨⟨a, b, rfl⟩, hT'⟩)
              go_roundg (gk - 1)
              case measure => omega
              case rel => exact ⟨j + 1, by omega, by omega, by go_num, hT'⟩
            · have ej : j = M.length := by omega
              subst ej
              have HF3 : Hid (Four S x (x + 1) p q w wr la ma L M X Y P P [(sb, shp c g)]) := by have := HT.out; rw [HPd.out] at this; exact this
              clear HT hj hg hlt HQl HPd HY
              obtain ⟨c2, g2, hcg⟩ := idx_shapeL HF3.out.ip
              have HSp : Hid (∀ S w1 z, IndexAt S w1 z P → Calls Try.prog 14 #[.pointer (some ⟨z, 0, none⟩)] w1 fun e w' => e = .returned (shapeV c2 g2) ∧ Below w1.heap.size w1 w') := fun S w1 z h => idx_shape hcg h
              clear hcg
              unfold shapeV at HSp
              go_wp2_with (first
                | (go_at_call_of 14 (Value.pointer (some (Addr.mk p 0 none))); refine (HSp.out _ _ _ HF3.out.ip).mono ?_; rintro e w9 ⟨rfl, hb9⟩; have HF4 : Hid (Four S x (x + 1) p q w (w9.alloc (shp c2 g2)) la ma L M X Y P P [(w9.heap.size, shp c2 g2), (sb, shp c g)]) := (HF3.out.on hb9).keep)
                | (go_at_call_of 14 (Value.pointer (some (Addr.mk q 0 none))); refine (HSp.out _ _ _ HF4.out.iq).mono ?_; rintro e w10 ⟨rfl, hb10⟩; have HF5 : Hid (Four S x (x + 1) p q w (w10.alloc (.cells #[.int .i64 (c2 0), .int .i64 (c2 1), .int .i64 (c2 2), .int .i64 (c2 3), .int .i64 (c2 4), .int .i64 g2] 33)) la ma L M X Y P P [(w10.heap.size, shp c2 g2), (w9.heap.size, shp c2 g2), (sb, shp c g)]) := (HF4.out.on hb10).keep))
              generalize w9.heap.size = ab at *
              generalize w10.heap.size = bb at *
              generalize w10.alloc (.cells #[.int .i64 (c2 0), .int .i64 (c2 1), .int .i64 (c2 2), .int .i64 (c2 3), .int .i64 (c2 4), .int .i64 g2] 33) = w11 at *
              have HK : Hid (∀ w', Below w11.heap.size w11 w' → Sh6 w' ab c2 g2 ∧ Sh6 w' bb c2 g2 ∧ Sh6 w' sb c g) := fun w' hb => ⟨shp_cell (blk_later hb (HF5.out.st (ab, shp c2 g2) (by simp)).2), shp_cell (blk_later hb (HF5.out.st (bb, shp c2 g2) (by simp)).2), shp_cell (blk_later hb (HF5.out.st (sb, shp c g) (by simp)).2)⟩
              have HD : Hid (Below w11.heap.size w11 w11.drew) := (Below.refl _ _).drew
              have HLp : Hid (∀ w1, Below w11.heap.size w11 w1 → Calls Try.prog 15 #[.pointer (some ⟨p, 0, none⟩)] w1 fun e w' => e = .returned (.int .i64 P.length) ∧ w' = w1) := fun w1 hb => indexLen_any (HF5.out.ip.on hb)
              have HLq : Hid (∀ w1, Below w11.heap.size w11 w1 → Calls Try.prog 15 #[.pointer (some ⟨q, 0, none⟩)] w1 fun e w' => e = .returned (.int .i64 P.length) ∧ w' = w1) := fun w1 hb => indexLen_any (HF5.out.iq.on hb)
              have HShx : Hid (∀ w1, Below w11.heap.size w11 w1 → Calls Try.prog 14 #[.pointer (some ⟨x, 0, none⟩)] w1 fun e w' => e = .returned (.agg #[.int .i64 (c 0), .int .i64 (c 1), .int .i64 (c 2), .int .i64 (c 3), .int .i64 (c 4), .int .i64 g]) ∧ Below w11.heap.size w11 w') := fun w1 hb => (HSh.out _ _ _ (HF5.out.ix.on hb)).mono fun e w' he => ⟨he.1, hb.trans (he.2.mono hb.size)⟩
              have hk0 := HK.out w11 (Below.refl _ _)
              unfold Sh6 at hk0
              clear hb9 hb10 HF3 HF4
              go_region_held3 (fun w' => (w'.cell? ⟨ab, 0, none⟩ = some (.int .i64 (c2 0)) ∧ w'.cell? ⟨ab, 1, none⟩ = some (.int .i64 (c2 1)) ∧ w'.cell? ⟨ab, 2, none⟩ = some (.int .i64 (c2 2)) ∧ w'.cell? ⟨ab, 3, none⟩ = some (.int .i64 (c2 3)) ∧ w'.cell? ⟨ab, 4, none⟩ = some (.int .i64 (c2 4)) ∧ w'.cell? ⟨ab, 5, none⟩ = some (.int .i64 g2)) ∧ (w'.cell? ⟨bb, 0, none⟩ = some (.int .i64 (c2 0)) ∧ w'.cell? ⟨bb, 1, none⟩ = some (.int .i64 (c2 1)) ∧ w'.cell? ⟨bb, 2, none⟩ = some (.int .i64 (c2 2)) ∧ w'.cell? ⟨bb, 3, none⟩ = some (.int .i64 (c2 3)) ∧ w'.cell? ⟨bb, 4, none⟩ = some (.int .i64 (c2 4)) ∧ w'.cell? ⟨bb, 5, none⟩ = some (.int .i64 g2)) ∧ (w'.cell? ⟨sb, 0, none⟩ = some (.int .i64 (c 0)) ∧ w'.cell? ⟨sb, 1, none⟩ = some (.int .i64 (c 1)) ∧ w'.cell? ⟨sb, 2, none⟩ = some (.int .i64 (c 2)) ∧ w'.cell? ⟨sb, 3, none⟩ = some (.int .i64 (c 3)) ∧ w'.cell? ⟨sb, 4, none⟩ = some (.int .i64 (c 4)) ∧ w'.cell? ⟨sb, 5, none⟩ = some (.int .i64 g)))
                (first | exact HK.out _ hb12 | exact HK.out _ HD.out | exact hk0 | go_keep)
                (first
                  | (go_at_call_of 15 (Value.pointer (some (Addr.mk p 0 none))); refine (HLp.out _ HD.out).mono ?_; rintro e w' ⟨rfl, rfl⟩)
                  | (go_at_call_of 15 (Value.pointer (some (Addr.mk q 0 none))); refine (HLq.out _ HD.out).mono ?_; rintro e w' ⟨rfl, rfl⟩)
                  | (go_at_call 14; refine (HShx.out _ HD.out).mono ?_; rintro e w12 ⟨rfl, hb12⟩))
              have HF6 : Hid (Four S x (x + 1) p q w w12 la ma L M X Y P P [(bb, shp c2 g2), (ab, shp c2 g2), (sb, shp c g)]) := HF5.out.on hb12
              clear HF5 HK HD HLp HLq HShx hk0 hb12
              go_wp2
              go_loopg [21] L.length (fun gk s21 wr => ∃ j : Nat, j ≤ L.length ∧ gk + j = L.length ∧ s21 = .int .i64 j ∧ Hid (Four S x (x + 1) p q w wr la ma L M X Y P P [(bb, shp c2 g2), (ab, shp c2 g2), (sb, shp c g)]))
              case atStart => exact ⟨0, Nat.zero_le _, by omega, rfl, HF6.out⟩
              case round =>
                clear HF6
                obtain ⟨j, hj, hg, rfl, HT⟩ := hrel
                by_cases hlt : j < L.length
                · obtain ⟨s, hs⟩ : ∃ s, L[j]? = some s := ⟨L[j], List.getElem?_eq_getElem hlt⟩
                  obtain ⟨kl, hla, hcl⟩ := HT.out.rl.at hlt
                  clear hcl
                  subst hla
                  have hc1 := HT.out.cellL hs
                  have HSs : Hid (L[j]? = some s) := hs
                  have hs64 : s.size ≤ 64 := HL64.out s (List.mem_of_getElem? hs)
                  obtain ⟨u, hu⟩ := HPf.out.2.2.2 s (List.mem_of_getElem? hs)
                  have HGt : Hid (∀ S w1 z, IndexAt S w1 z P → Calls Try.prog 13 #[.pointer (some ⟨z, 0, none⟩), .string s] w1 fun e w' => e = .returned (.tuple #[.string u, .bool true]) ∧ Below w1.heap.size w1 w') := fun S w1 z h => idx_get h hs64 hu
                  have HGx : Hid (∀ S w1 z, IndexAt S w1 z X → Calls Try.prog 13 #[.pointer (some ⟨z, 0, none⟩), .string s] w1 fun e w' => e = .returned (.tuple #[.string oneB, .bool true]) ∧ Below w1.heap.size w1 w') := fun S w1 z h => idx_get h hs64 (HX.out.2.2 s (List.mem_of_getElem? HSs.out))
                  unfold oneB at HGx
                  have hb0 : (0 : Int) ≤ (j : Int) := Int.natCast_nonneg _
                  have hb1 : (j : Int) < (L.length : Int) := by omega
                  clear hs hu
                  go_wp2_with (first
                    | (go_at_call_of 13 (Value.pointer (some (Addr.mk p 0 none))); refine (HGt.out _ _ _ HT.out.ip).mono ?_; rintro e w' ⟨rfl, hbA⟩; have hc2 := (HT.out.on hbA).cellL HSs.out)
                    | (go_at_call_of 13 (Value.pointer (some (Addr.mk q 0 none))); refine (HGt.out _ _ _ (HT.out.on hbA).iq).mono ?_; rintro e w'' ⟨rfl, hbB⟩; have hc3 := ((HT.out.on hbA).on hbB).cellL HSs.out)
                    | (go_at_call 13; refine (HGx.out _ _ _ ((HT.out.on hbA).on hbB).ix).mono ?_; rintro e wC ⟨rfl, hbC⟩))
                  go_roundg (gk - 1)
                  case measure => omega
                  case rel => exact ⟨j + 1, by omega, by omega, by go_num, ((HT.out.on hbA).on hbB).on hbC⟩
                · have HF7 : Hid (Four S x (x + 1) p q w wr la ma L M X Y P P [(bb, shp c2 g2), (ab, shp c2 g2), (sb, shp c g)]) := HT.out
                  have ej : j = L.length := by omega
                  subst ej
                  clear HT hj hg hlt
                  go_wp2
                  go_loopg [28] M.length (fun gk s28 wr => ∃ j : Nat, j ≤ M.length ∧ gk + j = M.length ∧ s28 = .int .i64 j ∧ Hid (Four S x (x + 1) p q w wr la ma L M X Y P P [(bb, shp c2 g2), (ab, shp c2 g2), (sb, shp c g)]))
                  case atStart => exact ⟨0, Nat.zero_le _, by omega, rfl, HF7.out⟩
                  case round =>
                    clear HF7
                    obtain ⟨j, hj, hg, rfl, HT⟩ := hrel
                    by_cases hlt : j < M.length
                    · obtain ⟨s, hs⟩ : ∃ s, M[j]? = some s := ⟨M[j], List.getElem?_eq_getElem hlt⟩
                      obtain ⟨km, hma, hcm⟩ := HT.out.rm.at hlt
                      clear hcm
                      subst hma
                      have hc1 := HT.out.cellM hs
                      have hs64 : s.size ≤ 64 := HM64.out s (List.mem_of_getElem? hs)
                      have HGt : Hid (∀ S w1 z, IndexAt S w1 z P → Calls Try.prog 13 #[.pointer (some ⟨z, 0, none⟩), .string s] w1 fun e w' => e = .returned (.tuple #[.string twoB, .bool true]) ∧ Below w1.heap.size w1 w') := fun S w1 z h => idx_get h hs64 (HPf.out.2.2.1 s (List.mem_of_getElem? hs))
                      unfold twoB at HGt
                      have hb0 : (0 : Int) ≤ (j : Int) := Int.natCast_nonneg _
                      have hb1 : (j : Int) < (M.length : Int) := by omega
                      clear hs
                      go_wp2_with (go_at_call 13; refine (HGt.out _ _ _ HT.out.ip).mono ?_; rintro e w' ⟨rfl, hbA⟩)
                      go_roundg (gk - 1)
                      case measure => omega
                      case rel => exact ⟨j + 1, by omega, by omega, by go_num, HT.out.on hbA⟩
                    · have HF8 : Hid (Four S x (x + 1) p q w wr la ma L M X Y P P [(bb, shp c2 g2), (ab, shp c2 g2), (sb, shp c g)]) := HT.out
                      have ej : j = M.length := by omega
                      subst ej
                      clear HT hj hg hlt
                      have HIP : Hid (∀ w1, Below wr.heap.size wr w1 → IndexAt (fun k => S k ∧ k < wr.heap.size) w1 p P) := fun w1 hb => (HF8.out.ip.weaken (S' := fun k => S k ∧ k < wr.heap.size) (fun k h1 h2 => ⟨h1, h2⟩) (fun e => HF8.out.ip.out e.1)).on hb
                      have HCp : Hid (Calls Try.prog 17 #[.pointer (some ⟨p, 0, none⟩)] wr fun e w' => e = .returned (.pointer (some ⟨wr.heap.size, 0, none⟩)) ∧ Hid (IndexAt (fun k => S k ∧ k ≠ wr.heap.size) w' wr.heap.size P ∧ Four (fun k => S k ∧ k ≠ wr.heap.size) x (x + 1) p q w w' la ma L M X Y P P [(bb, shp c2 g2), (ab, shp c2 g2), (sb, shp c g)])) := (indexCopy_any (HIP.out wr (Below.refl _ _))).mono fun e w' he => ⟨he.1, NewIx.at (S := fun k => S k ∧ k < wr.heap.size) he.2.1 (fun k h1 _ => ⟨h1.1, by have := h1.2; omega⟩) (fun h => h.2 rfl) HF8.out.ip.few, HF8.out.third he.2.2.1 he.2.2.2⟩
                      have HNe : Hid ((x ≠ wr.heap.size ∧ (x + 1) ≠ wr.heap.size ∧ p ≠ wr.heap.size ∧ q ≠ wr.heap.size) ∧ w.heap.size ≤ wr.heap.size) := ⟨⟨by have := HF8.out.ix.lt; omega, by have := HF8.out.iy.lt; omega, by have := HF8.out.ip.lt; omega, by have := HF8.out.iq.lt; omega⟩, HF8.out.below.size⟩
                      clear HIP
                      go_wp2_with (go_at_call 17; refine HCp.out.mono ?_; rintro e w13 ⟨rfl, HR0⟩)
                      clear HCp HF8
                      generalize (fun k => S k ∧ k ≠ wr.heap.size) = S5 at *
                      generalize wr.heap.size = r at *
                      have hPl : P.length ≤ 600 := HPf.out.2.1
                      go_wp2
                      go_loopg [32] gn (fun gk s32 wr => ∃ j : Nat, j ≤ gn ∧ gk + j = gn ∧ s32 = .int .i64 j ∧ Hid (∃ R, IndexAt S5 wr r R ∧ (del (kof xB) R).length ≤ P.length ∧ Four S5 x (x + 1) p q w wr la ma L M X Y P P [(bb, shp c2 g2), (ab, shp c2 g2), (sb, shp c g)]))
                      case atStart => exact ⟨0, Nat.zero_le _, by omega, rfl, P, HR0.out.1, len_del_le _ _, HR0.out.2⟩
                      case round =>
                        clear HR0
                        obtain ⟨j, hj, hg, rfl, HT⟩ := hrel
                        by_cases hlt : j < gn
                        · obtain ⟨s, hs⟩ : ∃ s, gs[j]? = some s := ⟨gs[j]'(by have := HGn.out; omega), List.getElem?_eq_getElem _⟩
                          obtain ⟨R, hR1, hR2, hR3⟩ := HT.out
                          obtain ⟨kg, og, hga, hgc⟩ := HGC.out j s hs
                          have hcell := cell_later hR3.below hgc
                          have HDl : Hid (Calls Try.prog 12 #[.pointer (some ⟨r, 0, none⟩), .string s] wr fun e w' => (∃ a b, e = .returned (.tuple #[.string a, .bool b])) ∧ Hid (IndexAt S5 w' r (del (kof s) R) ∧ Four S5 x (x + 1) p q w w' la ma L M X Y P P [(bb, shp c2 g2), (ab, shp c2 g2), (sb, shp c g)])) := (delete_any hR3.opn hR1 (HG64.out s (List.mem_of_getElem? hs))).mono fun e w' he => ⟨⟨_, _, he.1⟩, he.2.1, hR3.but he.2.2 hR1.out HNe.out.1 HNe.out.2⟩
                          have HPt : Hid (∀ w1, IndexAt S5 w1 r (del (kof s) R) ∧ Four S5 x (x + 1) p q w w1 la ma L M X Y P P [(bb, shp c2 g2), (ab, shp c2 g2), (sb, shp c g)] → Calls Try.prog 11 #[.pointer (some ⟨r, 0, none⟩), .string xB, .string threeB] w1 fun e w' => (∃ a b, e = .returned (.tuple #[.string a, .bool b, .int .i64 0])) ∧ Hid (∃ R, IndexAt S5 w' r R ∧ (del (kof xB) R).length ≤ P.length ∧ Four S5 x (x + 1) p q w w' la ma L M X Y P P [(bb, shp c2 g2), (ab, shp c2 g2), (sb, shp c g)])) := fun w1 h => by
                            have hst := small_step (kof xB) (kof s) threeB hR1.srt hR2
                            exact (put_room h.2.opn h.1 (by decide) (by omega)).mono fun e w' he => ⟨he.1, _, he.2.1, hst.2, h.2.but he.2.2 h.1.out HNe.out.1 HNe.out.2⟩
                          unfold xB threeB at HPt
                          have hb0 : (0 : Int) ≤ (j : Int) := Int.natCast_nonneg _
                          have hb1 : (j : Int) < (gn : Int) := by omega
                          clear hs hR1 hR2 hR3 hgc HT
                          subst hga
                          go_wp2_with (first
                            | (go_at_call 12; refine HDl.out.mono ?_; rintro e w' ⟨⟨a, b, rfl⟩, HD1⟩)
                            | (go_at_call 11; refine (HPt.out _ HD1.out).mono ?_; rintro e w'' ⟨⟨a', b', rfl⟩, HD2⟩))
                          go_roundg (gk - 1)
                          case measure => omega
                          case rel => exact ⟨j + 1, by omega, by omega, by go_num, HD2.out⟩
                        · have HF9 : Hid (Four S5 x (x + 1) p q w wr la ma L M X Y P P [(bb, shp c2 g2), (ab, shp c2 g2), (sb, shp c g)]) := by obtain ⟨R, _, _, h⟩ := HT.out; exact h
                          have ej : j = gn := by omega
                          subst ej
                          clear HT hg hlt HNe
                          go_wp2_with ((go_at_call 14; refine (HSp.out _ _ _ HF9.out.ip).mono ?_; rintro e w14 ⟨rfl, hb14⟩; have HFA : Hid (Four S5 x (x + 1) p q w (w14.alloc (.cells #[.int .i64 (c2 0), .int .i64 (c2 1), .int .i64 (c2 2), .int .i64 (c2 3), .int .i64 (c2 4), .int .i64 g2] 33)) la ma L M X Y P P [(w14.heap.size, shp c2 g2), (bb, shp c2 g2), (ab, shp c2 g2), (sb, shp c g)]) := (HF9.out.on hb14).keep))
                          generalize w14.heap.size = cb at *
                          generalize w14.alloc (.cells #[.int .i64 (c2 0), .int .i64 (c2 1), .int .i64 (c2 2), .int .i64 (c2 3), .int .i64 (c2 4), .int .i64 g2] 33) = w15 at *
                          have HK : Hid (∀ w', Below w15.heap.size w15 w' → Sh6 w' cb c2 g2 ∧ Sh6 w' bb c2 g2 ∧ Sh6 w' sb c g) := fun w' hb => ⟨shp_cell (blk_later hb (HFA.out.st (cb, shp c2 g2) (by simp)).2), shp_cell (blk_later hb (HFA.out.st (bb, shp c2 g2) (by simp)).2), shp_cell (blk_later hb (HFA.out.st (sb, shp c g) (by simp)).2)⟩
                          have HD : Hid (Below w15.heap.size w15 w15.drew) := (Below.refl _ _).drew
                          have HLp : Hid (∀ w1, Below w15.heap.size w15 w1 → Calls Try.prog 15 #[.pointer (some ⟨p, 0, none⟩)] w1 fun e w' => e = .returned (.int .i64 P.length) ∧ w' = w1) := fun w1 hb => indexLen_any (HFA.out.ip.on hb)
                          have HLq : Hid (∀ w1, Below w15.heap.size w15 w1 → Calls Try.prog 15 #[.pointer (some ⟨q, 0, none⟩)] w1 fun e w' => e = .returned (.int .i64 P.length) ∧ w' = w1) := fun w1 hb => indexLen_any (HFA.out.iq.on hb)
                          have HShx : Hid (∀ w1, Below w15.heap.size w15 w1 → Calls Try.prog 14 #[.pointer (some ⟨x, 0, none⟩)] w1 fun e w' => e = .returned (.agg #[.int .i64 (c 0), .int .i64 (c 1), .int .i64 (c 2), .int .i64 (c 3), .int .i64 (c 4), .int .i64 g]) ∧ Below w15.heap.size w15 w') := fun w1 hb => (HSh.out _ _ _ (HFA.out.ix.on hb)).mono fun e w' he => ⟨he.1, hb.trans (he.2.mono hb.size)⟩
                          have hk0 := HK.out w15 (Below.refl _ _)
                          unfold Sh6 at hk0
                          clear hb14 HF9
                          go_region_held3 (fun w' => (w'.cell? ⟨cb, 0, none⟩ = some (.int .i64 (c2 0)) ∧ w'.cell? ⟨cb, 1, none⟩ = some (.int .i64 (c2 1)) ∧ w'.cell? ⟨cb, 2, none⟩ = some (.int .i64 (c2 2)) ∧ w'.cell? ⟨cb, 3, none⟩ = some (.int .i64 (c2 3)) ∧ w'.cell? ⟨cb, 4, none⟩ = some (.int .i64 (c2 4)) ∧ w'.cell? ⟨cb, 5, none⟩ = some (.int .i64 g2)) ∧ (w'.cell? ⟨bb, 0, none⟩ = some (.int .i64 (c2 0)) ∧ w'.cell? ⟨bb, 1, none⟩ = some (.int .i64 (c2 1)) ∧ w'.cell? ⟨bb, 2, none⟩ = some (.int .i64 (c2 2)) ∧ w'.cell? ⟨bb, 3, none⟩ = some (.int .i64 (c2 3)) ∧ w'.cell? ⟨bb, 4, none⟩ = some (.int .i64 (c2 4)) ∧ w'.cell? ⟨bb, 5, none⟩ = some (.int .i64 g2)) ∧ (w'.cell? ⟨sb, 0, none⟩ = some (.int .i64 (c 0)) ∧ w'.cell? ⟨sb, 1, none⟩ = some (.int .i64 (c 1)) ∧ w'.cell? ⟨sb, 2, none⟩ = some (.int .i64 (c 2)) ∧ w'.cell? ⟨sb, 3, none⟩ = some (.int .i64 (c 3)) ∧ w'.cell? ⟨sb, 4, none⟩ = some (.int .i64 (c 4)) ∧ w'.cell? ⟨sb, 5, none⟩ = some (.int .i64 g)))
                            (first | exact HK.out _ hb16 | exact HK.out _ HD.out | exact hk0 | go_keep)
                            (first
                              | (go_at_call_of 15 (Value.pointer (some (Addr.mk p 0 none))); refine (HLp.out _ HD.out).mono ?_; rintro e w' ⟨rfl, rfl⟩)
                              | (go_at_call_of 15 (Value.pointer (some (Addr.mk q 0 none))); refine (HLq.out _ HD.out).mono ?_; rintro e w' ⟨rfl, rfl⟩)
                              | (go_at_call 14; refine (HShx.out _ HD.out).mono ?_; rintro e w16 ⟨rfl, hb16⟩))
                          go_wp2
                          go_ret
                          exact ⟨rfl, (HFA.out.on hb16).below⟩

end Go.Proofs.Ytcgjppacnhmjlaa
