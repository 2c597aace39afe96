/- The document's own Decode. -/
import Derived.Test.YtcgjppacnhmjlaaTupX
import Derived.Deep.DeepCutAuto
import Derived.Deep.CutBlock
import Derived.Deep.AppendLies
import Derived.Laws.BytesArg
set_option linter.unusedVariables false
set_option linter.unusedSimpArgs false
namespace Go.Proofs.Ytcgjppacnhmjlaa
open Go.RowKit Go.Shelf
attribute [local go_sem ↓] Go.wp_at_zero Go.wp_at_succ

def z0D : ValD := ⟨0, 0, []⟩
theorem vb_free {w : World} {b : Nat} {v : ValD} (h : w.heap[b]? = some (vB v)) (o : Nat) : w.frozen? ⟨b, o, none⟩ = false := by
  simp [World.frozen?, h, vB]
theorem vb_setS {w : World} {b : Nat} {u : ValD} {s : Bs} (h : w.heap[b]? = some (vB u)) : (w.setCell ⟨b, 2, none⟩ (.string ⟨s.toArray⟩)).heap[b]? = some (vB ⟨u.u, u.i, s⟩) := by
  rw [Lib.heap_setCell_same (i := 2) h (.string ⟨s.toArray⟩)]
  simp [vB]
theorem vb_setU {w : World} {b : Nat} {u : ValD} {n : Nat} (h : w.heap[b]? = some (vB u)) : (w.setCell ⟨b, 0, none⟩ (.int .u64 n)).heap[b]? = some (vB ⟨n, u.i, u.s⟩) := by
  rw [Lib.heap_setCell_same (i := 0) h (.int .u64 n)]
  simp [vB]
theorem vb_setI {w : World} {b : Nat} {u : ValD} {n : Int} (h : w.heap[b]? = some (vB u)) : (w.setCell ⟨b, 1, none⟩ (.int .i64 n)).heap[b]? = some (vB ⟨u.u, n, u.s⟩) := by
  rw [Lib.heap_setCell_same (i := 1) h (.int .i64 n)]
  simp [vB]
theorem infoB : (Try.prog.info? 5).map (fun i => (i.zero, i.size, i.bytes)) = some (some (.int .u8 0), 1, 1) := by kernel_rfl
theorem below_grew {B : Nat} {w0 w w' : World} {row : Option Nat} (hb : Below B w0 w) (hg : w.grownBy w' row) (hr : ∀ g, row = some g → B ≤ g) (hBw : B ≤ w.heap.size) : Below B w0 w' :=
  hb.trans ⟨hg.os, hg.tape, hg.output, hg.size, fun k hk => hg.block k (by omega) (fun e => by have := hr k e.symm; omega)⟩
theorem row_from {w : World} {e : TypeId} {size n base g : Nat} {v : Value} {xs : List Value} (h : w.ownsRow base e size v n xs) (hg : v.ownBlock = some g) : base ≤ g := (h.lt g hg).1
/-- The bytes read so far, in a row of the call's own. -/
abbrev BRow (B : Nat) (w : World) (v : Value) (b : Bs) : Prop := w.ownsRow B 5 1 v b.length (Lib.byteCells b)
theorem BRow.snoc {B : Nat} {w : World} {b : Bs} {c : UInt8} {g cap n : Nat} (hn : n = b.length) (h : w.ownsRow B 5 1 (.slice (some ⟨g, 0, none⟩) (n + 1) cap) (n + 1) (Lib.byteCells b ++ [.int .u8 c.toNat])) : BRow B w (.slice (some ⟨g, 0, none⟩) (n + 1) cap) (b ++ [c]) := by
  subst hn
  unfold BRow
  have e1 : (b ++ [c]).length = b.length + 1 := by simp
  have e2 : Lib.byteCells (b ++ [c]) = Lib.byteCells b ++ [.int .u8 c.toNat] := by simp [Lib.byteCells]
  rw [e1, e2]
  exact h
theorem BRow.conv {B : Nat} {w : World} {bo : Option Addr} {n cap : Nat} {b : Bs} (h : BRow B w (.slice bo n cap) b) : (convert 114 9 (.slice bo n cap)).run Try.prog w = .ok (.string ⟨b.toArray⟩) w := by
  have h' := h
  obtain ⟨h0, h1 | ⟨g, cap', cur, h1, h2, h3, h4, h5, h6, h7⟩⟩ := h
  · obtain ⟨h1, hl⟩ := h1
    simp only [Value.slice.injEq] at h1
    obtain ⟨rfl, rfl, rfl⟩ := h1
    have hb : b = [] := List.length_eq_zero_iff.mp hl
    subst hb
    exact run_convert_bytes_nil (P := Try.prog) w 114 5 Try.underlying114 Try.underlying5 0 0 9 Try.underlying9
  · simp only [Value.slice.injEq] at h1
    obtain ⟨rfl, rfl, rfl⟩ := h1
    refine run_convert_bytes_back (P := Try.prog) w 114 9 5 ⟨g, 0, none⟩ cap b Try.underlying114 Try.underlying5 Try.underlying9 (fun j hj => ?_)
    have := rowCells h' (j := j) (u := .int .u8 (b[j].toNat : Int)) (by simp [Lib.byteCells, List.getElem?_eq_getElem hj])
    rw [Addr.add_lit, Nat.zero_add]
    exact this
theorem ba_no {A B : ByteArray} (h : ¬ A = B) : (A.toList == B.toList) = false := by
  obtain ⟨⟨l⟩⟩ := A
  obtain ⟨⟨m⟩⟩ := B
  simp at h ⊢
  exact h
theorem cell_in {w : World} {b o : Nat} {v : Value} (h : w.cell? ⟨b, o, none⟩ = some v) : b < w.heap.size := by
  rcases Nat.lt_or_ge b w.heap.size with hlt | hge
  · exact hlt
  · simp [World.cell?, Array.getElem?_eq_none hge] at h
theorem drop_one (s : ByteArray) (i : Nat) (h : i < s.size) : s.data.toList.drop i = s[i] :: s.data.toList.drop (i + 1) := by
  rw [List.drop_eq_getElem_cons (by simpa using h)]; rfl

theorem wrap_low (n u : Nat) (hn : n = 1 ∨ n = 2 ∨ n = 4 ∨ n = 8) (hu : u < 256 ^ n) : wrap64 (IntKind.u64.wrap ((u : Int) + IntKind.u64.wrap (-2 ^ (8 * n - 1)))) = (u : Int) - 2 ^ (8 * n - 1) := by
  simp only [IntKind.wrap, IntKind.signed, IntKind.bits, wrap64]
  rcases hn with rfl | rfl | rfl | rfl <;> simp only [Nat.reduceMul, Nat.reduceSub, Int.reducePow, Nat.reducePow, Int.reduceNeg] at hu ⊢ <;> simp <;> omega
theorem encV_short (k : Int) (u : ValD) : (encV k u).length ≤ 2 * u.s.length + 10 := by
  unfold encV
  split
  · have := esc_len u.s; simp; omega
  · rw [dg_len]; rcases widthOf_cases k with h | h | h | h <;> omega

/-- What the document's Decode answers. -/
def RDec (w : World) (ks : List Int) (t : Bs) (e : Ending) (w' : World) : Prop := (¬ IsSch ks ∧ e = .returned (.tuple #[.slice none 0 0, .int .i64 3])) ∨ (IsSch ks ∧ rdAll ks t = none ∧ e = .returned (.tuple #[.slice none 0 0, .int .i64 5])) ∨ ∃ (vs : List ValD) (oo : Option Addr) (oc : Nat), IsSch ks ∧ rdAll ks t = some vs ∧ e = .returned (.tuple #[.slice oo vs.length oc, .int .i64 0]) ∧ w'.ownsRow w.heap.size 62 3 (.slice oo vs.length oc) vs.length (flatV vs)

set_option maxRecDepth 100000 in
set_option maxHeartbeats 8000000 in
theorem refDecode_any {w : World} {x : Value} {ks : List Int} {s : ByteArray} (hx : IntsAt w x ks) (hl : ks.length ≤ 9223372036854775807) (hs : s.size ≤ 4000000000) : Calls Try.prog 27 #[x, .string s] w fun e w' => RDec w ks s.data.toList e w' ∧ Below w.heap.size w w' := by
  have HI : Hid (Calls Try.prog 57 #[x] w fun e w' => e = .returned (.bool (decide (IsSch ks))) ∧ w' = w) := refSchema_any hx hl
  by_cases hk : IsSch ks
  · rw [decide_eq_true hk] at HI
    obtain ⟨i0, hi0, hz0, hz1, hz2⟩ := info_parts infoB
    obtain ⟨j0, hj0, hy0, hy1, hy2⟩ := info_parts infoV
    obtain ⟨ao, kb, p, cap, rfl, hcap, hc⟩ := hx
    have HX : Hid (∀ w1, Below w.heap.size w w1 → ∀ (i : Nat) k, ks[i]? = some k → ao = some ⟨kb, p, none⟩ ∧ w1.cell? ⟨kb, p + i, none⟩ = some (.int .i64 k)) := fun w1 hb i k hk => ⟨(hc i k hk).1, cell_later hb (hc i k hk).2⟩
    have hn6 := hk.1
    have HK : Hid (∀ (i : Nat) k, ks[i]? = some k → 1 ≤ k ∧ k ≤ 9) := fun i k hk' => hk.all (List.mem_of_getElem? hk')
    have HKS : Hid (IsSch ks) := hk
    clear hc hk
    go_enter Try.func27, Try.ntmps27
    go_wp2_with ((go_at_call 57; refine HI.out.mono ?_; rintro e w1 ⟨rfl, rfl⟩))
    go_loopg [7, 8, 9, 10, 11, 12, 13, 14, 15, 16, 17] ks.length (fun gk s7 s8 s9 s10 s11 s12 s13 s14 s15 s16 s17 wr => ∃ (i a : Nat) (us : List ValD) (oo : Option Addr) (oc : Nat), s9 = .int .i64 i ∧ i ≤ ks.length ∧ gk = ks.length - i ∧ s8 = .int .i64 a ∧ a ≤ s.size ∧ s7 = .slice oo i oc ∧ Hid (Far ks s.data.toList i a us ∧ Below w1.heap.size w1 wr ∧ wr.ownsRow w1.heap.size 62 3 (.slice oo i oc) i (flatV us)))
    case atStart => exact ⟨0, 0, [], none, 0, rfl, by omega, rfl, rfl, by omega, rfl, Far.start _ _, Below.refl _ _, World.ownsRow_nil _ _ _ _⟩
    case round =>
      obtain ⟨i, a, us, oo, oc, rfl, hi, rfl, rfl, ha, rfl, HR⟩ := hrel
      rename World => w0
      by_cases hlt : i < ks.length
      · as_aux_lemma =>
          obtain ⟨k, hk⟩ : ∃ k, ks[i]? = some k := ⟨_, List.getElem?_eq_getElem hlt⟩
          obtain ⟨rfl, c0'⟩ := HX.out _ HR.out.2.1 i k hk
          have c0 : ∀ ob, (w0.alloc ob).cell? ⟨kb, p + i, none⟩ = some (.int .i64 k) := fun ob => cell_later (belowA w0 ob) c0'
          have hkb : ¬ kb = w0.heap.size := by have := cell_in c0'; omega
          have hkb2 : ¬ w0.heap.size = kb := fun h => hkb h.symm
          clear c0'
          have hltI : (i : Int) < (ks.length : Int) := by omega
          have HKk : Hid (ks[i]? = some k ∧ 1 ≤ k ∧ k ≤ 9) := ⟨hk, HK.out i k hk⟩
          have HSz : Hid (∀ w2, Calls Try.prog 58 #[.int .i64 k] w2 fun e w' => e = .returned (.int .i64 (sizeK k)) ∧ w' = w2) := fun w2 => refSize_any k w2 HKk.out.2
          clear hk
          go_upto_if 34 with ((go_at_call 58; refine (HSz.out _).mono ?_; rintro e w2 ⟨rfl, hw2⟩; subst hw2))
          have hb0 : Below w0.heap.size w0 (w0.alloc (vB z0D)) := belowA w0 _
          have hv0 : (w0.alloc (vB z0D)).heap[w0.heap.size]? = some (vB z0D) := heap_alloc_new w0 _
          obtain ⟨wz, hwz⟩ : ∃ wz, w0.alloc (vB z0D) = wz := ⟨_, rfl⟩
          have hwz2 : w0.alloc (.cells #[.int .u64 0, .int .i64 0, .string ⟨#[]⟩] 62) = wz := hwz
          rw [hwz2]
          rw [hwz] at hb0 hv0
          clear hwz hwz2 c0
          have HW0 : Hid (Below w0.heap.size w0 wz ∧ wz.heap[w0.heap.size]? = some (vB z0D)) := ⟨hb0, hv0⟩
          clear hb0 hv0
          have HCk : Hid (∀ w', Below w0.heap.size w0 w' → w'.cell? ⟨kb, p + i, none⟩ = some (.int .i64 k)) := fun w' hb => (HX.out _ (HR.out.2.1.trans (hb.mono HR.out.2.1.size)) i k HKk.out.1).2
          go_cut [11] (fun s11 wx => Hid (Below w0.heap.size w0 wx ∧ wx.heap[w0.heap.size]? = some (vB (refV k (s.data.toList.drop a)))))
          case first =>
            by_cases h9 : k = 9
            · subst h9
              have hsk : sizeK 9 = 0 := rfl
              rw [hsk]
              have hzw : w0.heap.size < wz.heap.size := (Array.getElem?_eq_some_iff.mp HW0.out.2).1
              go_wp2_with fail
              go_loopg [12, 13] (s.size - a) (fun gk s12 s13 wr => ∃ (j : Nat) (b : Bs) (bo : Option Addr) (bc : Nat), s13 = .int .i64 j ∧ j ≤ s.size ∧ gk = s.size - j ∧ s12 = .slice bo b.length bc ∧ b.length ≤ j ∧ Hid (Below wz.heap.size wz wr ∧ BRow wz.heap.size wr (.slice bo b.length bc) b ∧ b ++ rdS (s.data.toList.drop j) = rdS (s.data.toList.drop a)))
              case atStart => exact ⟨a, [], none, 0, rfl, ha, by omega, rfl, Nat.zero_le _, Below.refl _ _, World.ownsRow_nil _ _ _ _, rfl⟩
              case round =>
                obtain ⟨j, b, bo, bc, rfl, hj, rfl, rfl, hbj, HB⟩ := hrel
                have HO : Hid (wr.ownsRow wz.heap.size 5 1 (.slice bo b.length bc) b.length (Lib.byteCells b)) := HB.out.2.1
                have hqs := HB.out.1.size
                have HApp : Hid (∀ (c : UInt8) g cap' w', w'.ownsRow wz.heap.size 5 1 (.slice (some ⟨g, 0, none⟩) (b.length + 1) cap') (b.length + 1) (Lib.byteCells b ++ [.int .u8 c.toNat]) → (wr.alloc (.cells #[.int .u8 c.toNat] 5)).grownBy w' (Value.slice bo b.length bc).ownBlock → Below wz.heap.size wz w' ∧ BRow wz.heap.size w' (.slice (some ⟨g, 0, none⟩) (b ++ [c]).length cap') (b ++ [c])) := fun c g cap' w' hown hgrow => by
                  refine ⟨below_grew (HB.out.1.alloc HB.out.1.size _) hgrow (fun g' e => row_from HO.out e) (by simp; omega), ?_⟩
                  have := BRow.snoc (c := c) rfl hown
                  have e1 : (b ++ [c]).length = b.length + 1 := by simp
                  rw [e1]; exact this
                have HExit : Hid (b = rdS (s.data.toList.drop a) → wr.cell? ⟨w0.heap.size, 2, none⟩ = some (.string ⟨#[]⟩) ∧ wr.frozen? ⟨w0.heap.size, 2, none⟩ = false ∧ Below w0.heap.size w0 (wr.setCell ⟨w0.heap.size, 2, none⟩ (.string ⟨b.toArray⟩)) ∧ (wr.setCell ⟨w0.heap.size, 2, none⟩ (.string ⟨b.toArray⟩)).heap[w0.heap.size]? = some (vB (refV 9 (s.data.toList.drop a)))) := fun hb => by
                  have hv : wr.heap[w0.heap.size]? = some (vB z0D) := (HB.out.1.block _ hzw).trans HW0.out.2
                  refine ⟨(vB_cells hv).2.2, vb_free hv 2, ((HW0.out.1.trans (HB.out.1.mono HW0.out.1.size))).setCell (Nat.le_refl _) _, ?_⟩
                  rw [vb_setS hv, hb]; rfl
                have hcv := BRow.conv HB.out.2.1
                by_cases hlt2 : j < s.size
                · have hlt2I : (j : Int) < (s.size : Int) := by omega
                  by_cases hz : s[j] = 0
                  · have hzI : ((s[j].toNat : Nat) : Int) = 0 := by rw [hz]; rfl
                    by_cases hm : ∃ h : j + 1 < s.size, s[j + 1] = 255
                    · obtain ⟨hm1, hm2⟩ := hm
                      have hm1I : ¬ (s.size : Int) ≤ (j : Int) + 1 := by omega
                      have hm2I : ((s[j + 1].toNat : Nat) : Int) = 255 := by rw [hm2]; rfl
                      have HN : Hid (rdS (s.data.toList.drop j) = 0 :: rdS (s.data.toList.drop (j + 2))) := by
                        show _ = _
                        rw [drop_one s j hlt2, drop_one s (j + 1) hm1, hz, hm2, rdS_esc]
                      clear hcv HExit
                      go_wp2_with (
                        (at_builtin; refine wpList_append_lies _ rfl _ _ _ rfl wz.heap.size 5 i0 (.int .u8 0) 1 1 Try.underlying114 hi0 hz0 hz1 hz2 rfl (by omega) (.slice bo b.length bc) b.length _ rfl (World.ownsRow.alloc HO.out _) ⟨wr.heap.size, 0, none⟩ 1 1 [.int .u8 0] rfl rfl (World.news_of_block (cs := #[.int .u8 0]) (t := 5) (fr := (0, 0)) (heap_alloc_new wr _)) (by simp [Value.oneCell']) (by omega) (by unfold maxLen; omega) (by omega) (by simp; omega) _ rfl ?_; intro g cap' w5 hown hgrow hat hltg; have HG := HApp.out 0 g cap' w5 hown hgrow; have HG' : Hid (Below wz.heap.size wz w5 ∧ BRow wz.heap.size w5 (.slice (some ⟨g, 0, none⟩) (b ++ [0]).length cap') (b ++ [0])) := HG; clear HG hown hgrow hat))
                      go_roundg (s.size - (j + 2))
                      case measure => omega
                      case rel =>
                        refine ⟨j + 2, b ++ [0], some ⟨g, 0, none⟩, cap', by go_num, by omega, rfl, by simp, by simp; omega, HG'.out.1, HG'.out.2, ?_⟩
                        rw [← HB.out.2.2, HN.out]; simp
                    · have hbE : b = rdS (s.data.toList.drop a) := by
                        have h := HB.out.2.2
                        rw [drop_one s j hlt2, hz, rdS_end, List.append_nil] at h
                        · exact h
                        · intro r hr
                          apply hm
                          by_cases hj1 : j + 1 < s.size
                          · refine ⟨hj1, ?_⟩
                            rw [drop_one s (j + 1) hj1] at hr
                            exact (List.cons.inj hr).1
                          · rw [List.drop_eq_nil_of_le (by simpa using hj1)] at hr; cases hr
                      obtain ⟨d2, f2, hE⟩ := HExit.out hbE
                      have HE : Hid (Below w0.heap.size w0 (wr.setCell ⟨w0.heap.size, 2, none⟩ (.string ⟨b.toArray⟩)) ∧ (wr.setCell ⟨w0.heap.size, 2, none⟩ (.string ⟨b.toArray⟩)).heap[w0.heap.size]? = some (vB (refV 9 (s.data.toList.drop a)))) := hE
                      clear hE hbE HExit HApp
                      by_cases hj1 : j + 1 < s.size
                      · have hm1I : ¬ (s.size : Int) ≤ (j : Int) + 1 := by omega
                        have hm2I : ¬ ((s[j + 1].toNat : Nat) : Int) = 255 := fun h => hm ⟨hj1, byte_ext (b := 255) h⟩
                        clear hm
                        go_wp2_with fail
                        go_meet
                        case rel => exact HE
                      · have hm1I : (s.size : Int) ≤ (j : Int) + 1 := by omega
                        clear hm
                        go_wp2_with fail
                        go_meet
                        case rel => exact HE
                  · have hzI : ¬ ((s[j].toNat : Nat) : Int) = 0 := fun h => hz (byte_ext (b := 0) h)
                    have HN : Hid (rdS (s.data.toList.drop j) = s[j] :: rdS (s.data.toList.drop (j + 1))) := by
                      show _ = _
                      rw [drop_one s j hlt2, rdS_nz _ _ hz]
                    clear hcv HExit
                    go_wp2_with (
                      (at_builtin; refine wpList_append_lies _ rfl _ _ _ rfl wz.heap.size 5 i0 (.int .u8 0) 1 1 Try.underlying114 hi0 hz0 hz1 hz2 rfl (by omega) (.slice bo b.length bc) b.length _ rfl (World.ownsRow.alloc HO.out _) ⟨wr.heap.size, 0, none⟩ 1 1 [.int .u8 s[j].toNat] rfl rfl (World.news_of_block (cs := #[.int .u8 s[j].toNat]) (t := 5) (fr := (0, 0)) (heap_alloc_new wr _)) (by simp [Value.oneCell']) (by omega) (by unfold maxLen; omega) (by omega) (by simp; omega) _ rfl ?_; intro g cap' w5 hown hgrow hat hltg; have HG := HApp.out s[j] g cap' w5 hown hgrow; have HG' : Hid (Below wz.heap.size wz w5 ∧ BRow wz.heap.size w5 (.slice (some ⟨g, 0, none⟩) (b ++ [s[j]]).length cap') (b ++ [s[j]])) := HG; clear HG hown hgrow hat))
                    go_roundg (s.size - (j + 1))
                    case measure => omega
                    case rel =>
                      refine ⟨j + 1, b ++ [s[j]], some ⟨g, 0, none⟩, cap', by go_num, by omega, rfl, by simp, by simp; omega, HG'.out.1, HG'.out.2, ?_⟩
                      rw [← HB.out.2.2, HN.out]; simp
                · have hlt2I : ¬ (j : Int) < (s.size : Int) := by omega
                  have hbE : b = rdS (s.data.toList.drop a) := by
                    have h := HB.out.2.2
                    rw [List.drop_eq_nil_of_le (by simpa using hlt2)] at h
                    simpa [rdS] using h
                  obtain ⟨d2, f2, hE⟩ := HExit.out hbE
                  have HE : Hid (Below w0.heap.size w0 (wr.setCell ⟨w0.heap.size, 2, none⟩ (.string ⟨b.toArray⟩)) ∧ (wr.setCell ⟨w0.heap.size, 2, none⟩ (.string ⟨b.toArray⟩)).heap[w0.heap.size]? = some (vB (refV 9 (s.data.toList.drop a)))) := hE
                  clear hE hbE HExit HApp
                  go_wp2_with fail
                  go_meet
                  case rel => exact HE
            · have hsk : sizeK k = widthOf k := by unfold sizeK; rw [if_neg h9]
              have hw8 : 1 ≤ widthOf k ∧ widthOf k ≤ 8 := by rcases widthOf_cases k with h | h | h | h <;> omega
              obtain ⟨n, hn⟩ : ∃ n, widthOf k = n := ⟨_, rfl⟩
              have HWn : Hid (widthOf k = n) := hn
              rw [hsk, hn]
              rw [hn] at hw8
              have hn0 : ((n : Int) == 0) = false := by simp; omega
              rw [hn0]
              obtain ⟨d0, d1, d2⟩ := vB_cells HW0.out.2
              have hfz := vb_free HW0.out.2
              have ck := HCk.out _ HW0.out.1
              have HLe : Hid (∀ w2, Calls Try.prog 59 #[.int .i64 n] w2 fun e w' => e = .returned (.int .i64 (-(2 ^ (8 * n - 1) : Int))) ∧ w' = w2) := fun w2 => least_any n w2 (by rw [← HWn.out]; exact widthOf_cases k)
              clear hsk hn hn0
              go_wp2_with fail
              go_loopg [14, 15] n (fun gk s14 s15 wr => ∃ (j u : Nat), s15 = .int .i64 j ∧ j ≤ n ∧ gk = n - j ∧ s14 = .int .u64 u ∧ wr = wz ∧ Hid (u = beOf ((s.data.toList.drop a).take j)))
              case atStart => exact ⟨0, 0, rfl, by omega, rfl, rfl, rfl, rfl⟩
              case round =>
                obtain ⟨j, u, rfl, hj, rfl, rfl, rfl, HU⟩ := hrel
                have hu : u < 256 ^ j := by rw [HU.out]; exact beOf_take_lt _ _
                have hlen : (s.data.toList.drop a).length = s.size - a := by simp
                have hu8 : u < 256 ^ n := Nat.lt_of_lt_of_le hu (Nat.pow_le_pow_right (by decide) hj)
                have hp8 : (256 : Nat) ^ n ≤ 256 ^ 8 := Nat.pow_le_pow_right (by decide) hw8.2
                have hmax : u < 18446744073709551616 := Nat.lt_of_lt_of_le hu8 hp8
                have HFin : Hid ((j = n ∨ s.size ≤ a + j) → (5 ≤ k → Hid (Below w0.heap.size w0 (((wr.setCell ⟨w0.heap.size, 0, none⟩ (.int .u64 u)).setCell ⟨w0.heap.size, 0, none⟩ (.int .u64 0)).setCell ⟨w0.heap.size, 1, none⟩ (.int .i64 (wrap64 (IntKind.u64.wrap ((u : Int) + IntKind.u64.wrap (-2 ^ (8 * n - 1))))))) ∧ (((wr.setCell ⟨w0.heap.size, 0, none⟩ (.int .u64 u)).setCell ⟨w0.heap.size, 0, none⟩ (.int .u64 0)).setCell ⟨w0.heap.size, 1, none⟩ (.int .i64 (wrap64 (IntKind.u64.wrap ((u : Int) + IntKind.u64.wrap (-2 ^ (8 * n - 1))))))).heap[w0.heap.size]? = some (vB (refV k (s.data.toList.drop a))))) ∧ (¬ 5 ≤ k → Hid (Below w0.heap.size w0 (wr.setCell ⟨w0.heap.size, 0, none⟩ (.int .u64 u)) ∧ (wr.setCell ⟨w0.heap.size, 0, none⟩ (.int .u64 u)).heap[w0.heap.size]? = some (vB (refV k (s.data.toList.drop a)))))) := fun hex => by
                  have hue : u = beOf ((s.data.toList.drop a).take (widthOf k)) := by
                    rw [HU.out, HWn.out]
                    rcases hex with hex | hex
                    · rw [hex]
                    · rw [List.take_of_length_le (by omega), List.take_of_length_le (by omega)]
                  have hb1 : Below w0.heap.size w0 (wr.setCell ⟨w0.heap.size, 0, none⟩ (.int .u64 u)) := HW0.out.1.setCell (Nat.le_refl _) _
                  refine ⟨fun h5 => ⟨(hb1.setCell (Nat.le_refl _) _).setCell (Nat.le_refl _) _, ?_⟩, fun h5 => ⟨hb1, ?_⟩⟩
                  · have e1 := vb_setU (n := u) HW0.out.2
                    have e2 := vb_setU (n := 0) e1
                    have e3 := vb_setI (n := wrap64 (IntKind.u64.wrap ((u : Int) + IntKind.u64.wrap (-2 ^ (8 * n - 1))))) e2
                    refine e3.trans ?_
                    rw [wrap_low n u (by rw [← HWn.out]; exact widthOf_cases k) hu8]
                    unfold refV
                    rw [if_neg h9, if_pos h5, ← hue, HWn.out]
                    rfl
                  · refine (vb_setU (n := u) HW0.out.2).trans ?_
                    unfold refV
                    rw [if_neg h9, if_neg h5, ← hue]
                    rfl
                by_cases hjn : j < n
                · have hjnI : (j : Int) < (n : Int) := by omega
                  by_cases hin : a + j < s.size
                  · have hinI : (a : Int) + (j : Int) < (s.size : Int) := by omega
                    have hu7 : u < 72057594037927936 := by
                      have : (256 : Nat) ^ j ≤ 256 ^ 7 := Nat.pow_le_pow_right (by decide) (by omega)
                      exact Nat.lt_of_lt_of_le hu this
                    have hub := (s[a + j]).toNat_lt
                    have HN : Hid (beOf ((s.data.toList.drop a).take (j + 1)) = 256 * u + s[a + j].toNat) := by
                      show _ = _
                      have hlt3 : j < (s.data.toList.drop a).length := by omega
                      rw [List.take_succ_eq_append_getElem hlt3, beOf_snoc, ← HU.out, Nat.mul_comm]
                      congr 2
                      rw [List.getElem_drop]; rfl
                    clear hu hu8 hp8 hlen HFin
                    go_wp2_with fail
                    go_roundg (n - (j + 1))
                    case measure => omega
                    case rel =>
                      refine ⟨j + 1, 256 * u + s[a + j].toNat, by go_num, by omega, rfl, ?_, rfl, HN.out.symm⟩
                      go_num
                  · have hinI : ¬ (a : Int) + (j : Int) < (s.size : Int) := by omega
                    obtain ⟨hF5, hF4⟩ := HFin.out (.inr (by omega))
                    have HF5 : Hid (5 ≤ k → Hid (Below w0.heap.size w0 (((wr.setCell ⟨w0.heap.size, 0, none⟩ (.int .u64 u)).setCell ⟨w0.heap.size, 0, none⟩ (.int .u64 0)).setCell ⟨w0.heap.size, 1, none⟩ (.int .i64 (wrap64 (IntKind.u64.wrap ((u : Int) + IntKind.u64.wrap (-2 ^ (8 * n - 1))))))) ∧ (((wr.setCell ⟨w0.heap.size, 0, none⟩ (.int .u64 u)).setCell ⟨w0.heap.size, 0, none⟩ (.int .u64 0)).setCell ⟨w0.heap.size, 1, none⟩ (.int .i64 (wrap64 (IntKind.u64.wrap ((u : Int) + IntKind.u64.wrap (-2 ^ (8 * n - 1))))))).heap[w0.heap.size]? = some (vB (refV k (s.data.toList.drop a))))) := hF5
                    have HF4 : Hid (¬ 5 ≤ k → Hid (Below w0.heap.size w0 (wr.setCell ⟨w0.heap.size, 0, none⟩ (.int .u64 u)) ∧ (wr.setCell ⟨w0.heap.size, 0, none⟩ (.int .u64 u)).heap[w0.heap.size]? = some (vB (refV k (s.data.toList.drop a))))) := hF4
                    clear hF5 hF4 HFin hu hlen hu8 hp8
                    by_cases h5 : 5 ≤ k
                    · go_wp2_with ((go_at_call 59; refine (HLe.out _).mono ?_; rintro e w2 ⟨rfl, hw2⟩; subst hw2))
                      go_meet
                      case rel => exact HF5.out h5
                    · go_wp2_with fail
                      go_meet
                      case rel => exact HF4.out h5
                · have hjnI : ¬ (j : Int) < (n : Int) := by omega
                  obtain ⟨hF5, hF4⟩ := HFin.out (.inl (by omega))
                  have HF5 : Hid (5 ≤ k → Hid (Below w0.heap.size w0 (((wr.setCell ⟨w0.heap.size, 0, none⟩ (.int .u64 u)).setCell ⟨w0.heap.size, 0, none⟩ (.int .u64 0)).setCell ⟨w0.heap.size, 1, none⟩ (.int .i64 (wrap64 (IntKind.u64.wrap ((u : Int) + IntKind.u64.wrap (-2 ^ (8 * n - 1))))))) ∧ (((wr.setCell ⟨w0.heap.size, 0, none⟩ (.int .u64 u)).setCell ⟨w0.heap.size, 0, none⟩ (.int .u64 0)).setCell ⟨w0.heap.size, 1, none⟩ (.int .i64 (wrap64 (IntKind.u64.wrap ((u : Int) + IntKind.u64.wrap (-2 ^ (8 * n - 1))))))).heap[w0.heap.size]? = some (vB (refV k (s.data.toList.drop a))))) := hF5
                  have HF4 : Hid (¬ 5 ≤ k → Hid (Below w0.heap.size w0 (wr.setCell ⟨w0.heap.size, 0, none⟩ (.int .u64 u)) ∧ (wr.setCell ⟨w0.heap.size, 0, none⟩ (.int .u64 u)).heap[w0.heap.size]? = some (vB (refV k (s.data.toList.drop a))))) := hF4
                  clear hF5 hF4 HFin hu hlen hu8 hp8
                  by_cases h5 : 5 ≤ k
                  · go_wp2_with ((go_at_call 59; refine (HLe.out _).mono ?_; rintro e w2 ⟨rfl, hw2⟩; subst hw2))
                    go_meet
                    case rel => exact HF5.out h5
                  · go_wp2_with fail
                    go_meet
                    case rel => exact HF4.out h5
          case rest =>
            rename World => wx
            have HW1 : Hid (Below w0.heap.size w0 wx ∧ wx.heap[w0.heap.size]? = some (vB (refV k (s.data.toList.drop a)))) := hcut
            clear hcut HW0
            obtain ⟨v, hv⟩ : ∃ v, refV k (s.data.toList.drop a) = v := ⟨_, rfl⟩
            have hvf : FitV k v := by rw [← hv]; exact refV_fit _ _
            have hvs : v.s.length ≤ s.size := by
              rw [← hv]
              have h1 := refV_s k (s.data.toList.drop a)
              have h2 : (s.data.toList.drop a).length ≤ s.size := by simp
              omega
            obtain ⟨ev, hev⟩ : ∃ ev : ByteArray, ev = ⟨(encV k v).toArray⟩ := ⟨_, rfl⟩
            have hevs : ev.size = (encV k v).length := by rw [hev]; show (encV k v).toArray.size = _; simp
            have hevl := encV_short k v
            rw [hv] at HW1
            have HC : Hid (∀ w2, Below wx.heap.size wx w2 → Calls Try.prog 60 #[.int .i64 k, .agg #[.int .u64 v.u, .int .i64 v.i, .string ⟨v.s.toArray⟩]] w2 fun e w' => e = .returned (.tuple #[.string ev, .bool true]) ∧ Below wx.heap.size wx w') := fun w2 hb2 => (refCode_any k v w2 HKk.out.2 (valOk_fit hvf) (by omega)).mono fun e w' he => ⟨(by
              obtain ⟨c, b, h1, h2, h3⟩ := he.1
              rw [h1, h3 hvf, h2.mpr hvf, hev]), hb2.trans (he.2.mono hb2.size)⟩
            have HSv : Hid (∀ w', Below wx.heap.size wx w' → w'.cell? ⟨kb, p + i, none⟩ = some (.int .i64 k) ∧ w'.cell? ⟨w0.heap.size, 0, none⟩ = some (.int .u64 v.u) ∧ w'.cell? ⟨w0.heap.size, 1, none⟩ = some (.int .i64 v.i) ∧ w'.cell? ⟨w0.heap.size, 2, none⟩ = some (.string ⟨v.s.toArray⟩)) := fun w' hb => by
              obtain ⟨e0, e1, e2⟩ := vB_cells HW1.out.2
              exact ⟨HCk.out _ (HW1.out.1.trans (hb.mono HW1.out.1.size)), cell_later hb e0, cell_later hb e1, cell_later hb e2⟩
            obtain ⟨ck, d0, d1, d2⟩ := HSv.out _ (Below.refl _ _)
            have HP : Hid (refV k (s.data.toList.drop a) = v ∧ ev = ⟨(encV k v).toArray⟩ ∧ ev.size = (encV k v).length) := ⟨hv, hev, hevs⟩
            have hes : ev.size ≤ 2 * s.size + 10 := by omega
            clear hv hev hevs hevl hvf
            go_wp2_with fail
            go_region_held3 (fun w' => w'.cell? ⟨kb, p + i, none⟩ = some (.int .i64 k) ∧ w'.cell? ⟨w0.heap.size, 0, none⟩ = some (.int .u64 v.u) ∧ w'.cell? ⟨w0.heap.size, 1, none⟩ = some (.int .i64 v.i) ∧ w'.cell? ⟨w0.heap.size, 2, none⟩ = some (.string ⟨v.s.toArray⟩)) (first | exact ⟨ck, d0, d1, d2⟩ | exact HSv.out _ hb2 | go_keep) ((go_at_call 60; refine (HC.out _ (Below.refl _ _).drew).mono ?_; rintro e w2 ⟨rfl, hb2⟩))
            have hsz0 := HW1.out.1.size
            have hsz1 := HR.out.2.1.size
            obtain ⟨ck2, f0, f1, f2⟩ := HSv.out _ hb2
            have hbw : Below w1.heap.size w1 w2 := HR.out.2.1.trans ((HW1.out.1.trans (hb2.mono hsz0)).mono hsz1)
            have HBw : Hid (Below w1.heap.size w1 w2) := hbw
            have hszw := hbw.size
            clear hbw
            by_cases hp : encV k v <+: s.data.toList.drop a
            · have hle : a + ev.size ≤ s.size := by
                have h1 := hp.length_le
                have h2 : (s.data.toList.drop a).length = s.size - a := by simp
                rw [HP.out.2.2]; omega
              have hleI : ¬ (s.size : Int) < (a : Int) + (ev.size : Int) := by omega
              have hex : s.extract a (a + ev.size) = ev := by
                apply kof_ext
                rw [Lib.extract_data]
                have h1 := List.prefix_iff_eq_take.mp hp
                rw [HP.out.2.2]
                have h2 : ev.data.toList = encV k v := by rw [HP.out.2.1]
                rw [h2]
                conv => rhs; rw [h1]
                first | rfl | simp
              have HO : Hid (w2.ownsRow w1.heap.size 62 3 (.slice oo i oc) i (flatV us)) := by
                refine rowOn HR.out.2.2 fun g hg => ?_
                have hlg := rowLt HR.out.2.2 hg
                exact (hb2.block g (by omega)).trans (HW1.out.1.block g hlg)
              have HApp : Hid (∀ g cap' w', w'.ownsRow w1.heap.size 62 3 (.slice (some ⟨g, 0, none⟩) (i + 1) cap') (i + 1) (flatV us ++ cellsV v) → (w2.alloc (vB v)).grownBy w' (Value.slice oo i oc).ownBlock → Far ks s.data.toList (i + 1) (a + ev.size) (us ++ [v]) ∧ Below w1.heap.size w1 w' ∧ w'.ownsRow w1.heap.size 62 3 (.slice (some ⟨g, 0, none⟩) (i + 1) cap') (i + 1) (flatV (us ++ [v]))) := fun g cap' w' hown hgrow => by
                refine ⟨?_, below_grew (HBw.out.alloc hszw _) hgrow (fun g' e => row_from HO.out e) (by simp; omega), ?_⟩
                · have := HR.out.1.next HKk.out.1 (by rw [HP.out.1]; exact hp)
                  rw [HP.out.1, ← HP.out.2.2] at this
                  exact this
                · rw [flatV_snoc]; exact hown
              have hi6 : i < 6 := by omega
              have ev1 : ∀ w3 : World, w3.alloc (.cells #[.int .u64 v.u, .int .i64 v.i, .string ⟨v.s.toArray⟩] 62) = w3.alloc (vB v) := fun _ => rfl
              clear hp
              go_wp2_with (
                (at_builtin; refine wpList_append_lies _ rfl _ _ _ rfl w1.heap.size 62 j0 (.agg #[.int .u64 0, .int .i64 0, .string ⟨#[]⟩]) 3 32 Try.underlying57 hj0 hy0 hy1 hy2 rfl (by omega) (.slice oo i oc) i _ rfl (World.ownsRow.alloc HO.out _) ⟨w2.heap.size, 0, none⟩ 1 1 (cellsV v) rfl rfl (World.news_of_block (cs := #[.int .u64 v.u, .int .i64 v.i, .string ⟨v.s.toArray⟩]) (t := 62) (fr := (0, 0)) (heap_alloc_new w2 _)) (by simp [cellsV, Value.oneCell']) (by omega) (by unfold maxLen; omega) (by omega) (by simp; omega) _ rfl ?_; intro g cap' w5 hown hgrow hat hltg; have hN := HApp.out g cap' w5 hown hgrow; have HN : Hid (Far ks s.data.toList (i + 1) (a + ev.size) (us ++ [v]) ∧ Below w1.heap.size w1 w5 ∧ w5.ownsRow w1.heap.size 62 3 (.slice (some ⟨g, 0, none⟩) (i + 1) cap') (i + 1) (flatV (us ++ [v]))) := hN; clear hN hown hgrow hat))
              go_roundg (ks.length - (i + 1))
              case measure => omega
              case rel => exact ⟨i + 1, a + ev.size, us ++ [v], _, _, by go_num, by omega, rfl, by go_num, hle, rfl, HN.out⟩
            · have HF : Hid (rdAll ks s.data.toList = none) := HR.out.1.fails HKk.out.1 (by rw [HP.out.1]; exact hp)
              by_cases hle : a + ev.size ≤ s.size
              · have hleI : ¬ (s.size : Int) < (a : Int) + (ev.size : Int) := by omega
                have hex : ¬ s.extract a (a + ev.size) = ev := fun e => hp (by
                  have e2 := congrArg (fun x : ByteArray => x.data.toList) e
                  simp only [Lib.extract_data] at e2
                  have h2 : ev.data.toList = encV k v := by rw [HP.out.2.1]
                  rw [h2] at e2
                  rw [← e2]
                  have : (s.data.toList.take (a + ev.size)).drop a = (s.data.toList.drop a).take ev.size := by rw [List.drop_take]; congr 1; omega
                  first | exact List.take_prefix _ _ | (rw [this]; exact List.take_prefix _ _))
                have hexq := ba_no hex
                clear hp
                go_wp2_with fail
                go_ret2
                exact ⟨.inr (.inl ⟨HKS.out, HF.out, rfl⟩), HBw.out⟩
              · have hleI : (s.size : Int) < (a : Int) + (ev.size : Int) := by omega
                clear hp
                go_wp2_with fail
                go_ret2
                exact ⟨.inr (.inl ⟨HKS.out, HF.out, rfl⟩), HBw.out⟩
      · have hltI : ¬ (i : Int) < (ks.length : Int) := by omega
        obtain rfl : i = ks.length := by omega
        have hlu := HR.out.1.1
        by_cases he : a = s.size
        · have heI : ((a : Int) == (s.size : Int)) = true := by simp; omega
          have heI2 : (a : Int) = (s.size : Int) := by omega
          go_wp2_with fail
          go_ret2
          refine ⟨.inr (.inr ⟨us, oo, oc, HKS.out, HR.out.1.done.1 (by rw [he]; simp), by rw [hlu]; rfl, ?_⟩), HR.out.2.1⟩
          rw [hlu]; exact HR.out.2.2
        · have heI : ¬ (a : Int) = (s.size : Int) := by omega
          go_wp2_with fail
          go_ret2
          exact ⟨.inr (.inl ⟨HKS.out, HR.out.1.done.2 (by intro e; apply he; rw [e]; simp), rfl⟩), HR.out.2.1⟩
  · rw [decide_eq_false hk] at HI
    have HK : Hid (¬ IsSch ks) := hk
    clear hk hx
    go_enter Try.func27, Try.ntmps27
    go_wp2_with ((go_at_call 57; refine HI.out.mono ?_; rintro e w1 ⟨rfl, rfl⟩))
    go_ret2
    exact ⟨.inl ⟨HK.out, rfl⟩, Below.refl _ _⟩

end Go.Proofs.Ytcgjppacnhmjlaa
