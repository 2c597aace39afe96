/- Gone: the walk. -/
import Derived.Test.YtcgjppacnhmjlaaGoneA
import Derived.Test.YtcgjppacnhmjlaaTraceless
set_option linter.unusedVariables false
set_option linter.unusedSimpArgs false
namespace Go.Proofs.Ytcgjppacnhmjlaa
open Go.RowKit Go.Shelf
attribute [local go_sem ↓] Go.wp_at_zero Go.wp_at_succ
attribute [local go_sem] Oper.semAt_some

theorem gone_start {w w4 w5 : World} {fr to : ByteArray} {la : Option Addr} {L : List ByteArray} (hb4 : Below (((w.alloc (.cells #[.string fr] 9)).alloc (.cells #[.string to] 9)).alloc (.cells #[.bool false] 4)).heap.size (((w.alloc (.cells #[.string fr] 9)).alloc (.cells #[.string to] 9)).alloc (.cells #[.bool false] 4)) w4)
    (hrow : RowS (fun k => w4.heap.size ≤ k) w5 la L) (hb5 : Below w4.heap.size w4 w5) :
    GS w w5.heap.size (w5.heap.size + 1) w.heap.size (w.heap.size + 1) (w.heap.size + 2) fr to la L (fun k => k ≠ w5.heap.size ∧ k ≠ w.heap.size + 2) [] ((w5.alloc (.cells #[.pointer none] 78)).alloc (.cells #[.pointer (some ⟨w5.heap.size, 0, none⟩)] 25)) := by
  have b3 : Below w.heap.size w (((w.alloc (.cells #[.string fr] 9)).alloc (.cells #[.string to] 9)).alloc (.cells #[.bool false] 4)) := (((Below.refl _ _).alloc (Nat.le_refl _) _).alloc (by simp) _).alloc (by simp; omega) _
  have hs4 := hb4.size
  have hs5 := hb5.size
  simp only [World.size_alloc] at hs4
  have hb35 := hb4.trans (hb5.mono hb4.size)
  have hb5w : Below w.heap.size w w5 := b3.trans (hb35.mono b3.size)
  have b7 : Below w5.heap.size w5 ((w5.alloc (.cells #[.pointer none] 78)).alloc (.cells #[.pointer (some ⟨w5.heap.size, 0, none⟩)] 25)) := ((Below.refl _ _).alloc (Nat.le_refl _) _).alloc (by simp) _
  have k1 : (((w.alloc (.cells #[.string fr] 9)).alloc (.cells #[.string to] 9)).alloc (.cells #[.bool false] 4)).heap[w.heap.size]? = some (.cells #[.string fr] 9 (0, 0)) := by
    rw [Below.heap_alloc _ _ _ (by simp; omega)]; exact old_new w _ _
  have k2 : (((w.alloc (.cells #[.string fr] 9)).alloc (.cells #[.string to] 9)).alloc (.cells #[.bool false] 4)).heap[w.heap.size + 1]? = some (.cells #[.string to] 9 (0, 0)) := by
    have := old_new (w.alloc (.cells #[.string fr] 9)) (.cells #[.string to] 9) (.cells #[.bool false] 4)
    rw [World.size_alloc] at this; exact this
  have k3 : (((w.alloc (.cells #[.string fr] 9)).alloc (.cells #[.string to] 9)).alloc (.cells #[.bool false] 4)).heap[w.heap.size + 2]? = some (.cells #[.bool false] 4 (0, 0)) := by
    have := heap_alloc_new ((w.alloc (.cells #[.string fr] 9)).alloc (.cells #[.string to] 9)) (.cells #[.bool false] 4)
    rw [World.size_alloc, World.size_alloc] at this; exact this
  have up : ∀ {b : Nat} {ob : Obj}, (((w.alloc (.cells #[.string fr] 9)).alloc (.cells #[.string to] 9)).alloc (.cells #[.bool false] 4)).heap[b]? = some ob → ((w5.alloc (.cells #[.pointer none] 78)).alloc (.cells #[.pointer (some ⟨w5.heap.size, 0, none⟩)] 25)).heap[b]? = some ob := fun h => blk_later b7 (blk_later hb35 h)
  refine ⟨⟨⟨0, none, ?_, .inl ⟨rfl, rfl⟩⟩, fun h => h.1 rfl, by simp⟩, ?_, ?_, up k1, up k2, up k3, hb5w.trans (b7.mono hb5w.size), fun k hk => ?_, ⟨by have := hb5w.size; omega, by omega⟩, by omega, by omega, by omega, by omega⟩
  · exact old_new w5 _ _
  · refine RowS.on (w := w5) ?_ b7
    exact hrow.weaken fun k h1 h2 => ⟨by omega, by omega⟩
  · have := heap_alloc_new (w5.alloc (.cells #[.pointer none] 78)) (.cells #[.pointer (some ⟨w5.heap.size, 0, none⟩)] 25)
    rw [World.size_alloc] at this; exact this
  · simp at hk; exact ⟨by omega, by omega⟩

set_option maxRecDepth 100000 in
set_option maxHeartbeats 8000000 in
theorem gone_any {w : World} {kv : Value} {ks : List ByteArray} {fr to : ByteArray} (hk : StrsAt w kv ks) (hkl : ks.length ≤ 9223372036854775807) (hks : ∀ s ∈ ks, s.size ≤ 9223372036854775807) (hfr : fr.size ≤ 9223372036854775807) (hto : to.size ≤ 9223372036854775807) :
    Calls Try.prog 4 #[kv, .string fr, .string to] w fun e w' => e = .returned (.bool true) ∧ Below w.heap.size w w' := by
  have hL300 : (shortOf ks).length ≤ 300 := by rw [shortOf_len]; omega
  have HL64 : Hid (∀ s ∈ shortOf ks, s.size ≤ 64) := fun s hs => by obtain ⟨a, _, rfl⟩ := List.mem_map.mp hs; exact cut64_size a
  have HA : Hid (∀ w1, Calls Try.prog 8 #[] w1 fun e w' => e = .returned (.bool true) ∧ Below w1.heap.size w1 w') := fun w1 => awake_any w1
  have HS1 : Hid (∀ w1, Below w.heap.size w w1 → Calls Try.prog 9 #[kv] w1 fun e w' => ∃ ao c, e = .returned (.slice ao (shortOf ks).length c) ∧ RowS (fun k => w1.heap.size ≤ k) w' ao (shortOf ks) ∧ Below w1.heap.size w1 w') := fun w1 hb => short_row (hk.on hb) hkl hks
  clear hk hks
  generalize hLd : shortOf ks = L at *
  clear hLd
  have b3 : Below w.heap.size w (((w.alloc (.cells #[.string fr] 9)).alloc (.cells #[.string to] 9)).alloc (.cells #[.bool false] 4)) := (((Below.refl _ _).alloc (Nat.le_refl _) _).alloc (by simp) _).alloc (by simp; omega) _
  refine (callsIn_wide (n := 5)).1 ?_
  refine callsIn_of_wp_marks Try.func4 rfl trivial ?_ rfl
  refine wpIn_wide.2 ?_
  simp only [Try.ntmps4, List.size_toArray, List.length_cons, List.length_nil, Nat.reduceAdd, Nat.reduceSub, Array.replicate_succ, Array.replicate_zero, List.push_toArray, List.append_toArray, List.nil_append, List.cons_append]
  go_wp2_with (first
    | (go_at_call 8; refine (HA.out _).mono ?_; rintro e w4 ⟨rfl, hb4⟩)
    | (go_at_call 9; refine (HS1.out _ (b3.trans (hb4.mono b3.size))).mono ?_; rintro e w5 ⟨la, lc, rfl, hrl, hb5⟩)
    | (go_at_call 10; refine (new_any _).mono ?_; rintro e w' ⟨rfl, rfl⟩))
  obtain ⟨xb, bx, bf, bt, br, S, hxb, hbx, hbf, hbt, hbr, HS0, HG0⟩ : ∃ (xb bx bf bt br : Nat) (S : Nat → Prop), w5.heap.size = xb ∧ w5.heap.size + 1 = bx ∧ w.heap.size = bf ∧ w.heap.size + 1 = bt ∧ w.heap.size + 1 + 1 = br ∧ Hid (∀ k, S k ↔ k ≠ xb ∧ k ≠ br) ∧ Hid (GS w xb bx bf bt br fr to la L S [] ((w5.alloc (.cells #[.pointer none] 78)).alloc (.cells #[.pointer (some ⟨w5.heap.size, 0, none⟩)] 25))) := ⟨_, _, _, _, _, _, rfl, rfl, rfl, rfl, rfl, fun k => Iff.rfl, gone_start hb4 hrl hb5⟩
  have HW : Hid (bf = w.heap.size ∧ bt = w.heap.size + 1 ∧ br = w.heap.size + 2) := ⟨hbf.symm, hbt.symm, hbr.symm⟩
  rw [hbx, hbr, hbt]
  rw [hxb] at HG0 ⊢
  rw [hbf]
  obtain ⟨wz, hwz⟩ : ∃ wz, (w5.alloc (.cells #[.pointer none] 78)).alloc (.cells #[.pointer (some ⟨xb, 0, none⟩)] 25) = wz := ⟨_, rfl⟩
  rw [hwz] at HG0 ⊢
  clear hwz hb4 hb5 hrl b3 hxb hbx hbf hbt hbr HA HS1
  go_loopg [10] L.length (fun gk s10 wr => ∃ j : Nat, j ≤ L.length ∧ gk = L.length - j ∧ s10 = .int .i64 j ∧ Hid (GS w xb bx bf bt br fr to la L S (pG L j) wr))
  case atStart => exact ⟨0, Nat.zero_le _, rfl, rfl, HG0.out⟩
  case round =>
    obtain ⟨j, hj, rfl, rfl, HG⟩ := hrel
    by_cases hlt : j < L.length
    · obtain ⟨s, hs⟩ : ∃ s, L[j]? = some s := ⟨L[j], List.getElem?_eq_getElem hlt⟩
      obtain ⟨kl, hla, _⟩ := HG.out.row.at hlt
      subst hla
      have HC : Hid (∀ X w', GS w xb bx bf bt br fr to (some ⟨kl, 0, none⟩) L S X w' → w'.cell? ⟨bx, 0, none⟩ = some (.pointer (some ⟨xb, 0, none⟩)) ∧ w'.cell? ⟨kl, j, none⟩ = some (.string s)) := fun X w' h => by
        obtain ⟨k', h1, h2⟩ := h.row.at hlt
        cases h1
        exact ⟨one_cell' h.cbx, h2 j s hs⟩
      have hltI : (j : Int) < (L.length : Int) := by omega
      have hs64 : s.size ≤ 64 := HL64.out s (List.mem_of_getElem? hs)
      have HP : Hid (∀ w1, GS w xb bx bf bt br fr to (some ⟨kl, 0, none⟩) L S (pG L j) w1 → Calls Try.prog 11 #[.pointer (some ⟨xb, 0, none⟩), .string s, .string (s ++ ⟨#[33]⟩)] w1 fun e w' => (∃ a b, e = .returned (.tuple #[.string a, .bool b, .int .i64 0])) ∧ GS w xb bx bf bt br fr to (some ⟨kl, 0, none⟩) L S (pG L (j + 1)) w') := fun w1 h => by
        rw [pG_succ L j s hs]
        exact (put_room h.opn h.ix hs64 (by have := len_pG L j; omega)).mono fun e w' he => ⟨he.1, h.but he.2.1 he.2.2⟩
      obtain ⟨c0, c1⟩ := HC.out _ _ HG.out
      have hsum : s.size + 1 ≤ 9223372036854775807 := by omega
      have hsz1 : (⟨#[33]⟩ : ByteArray).size = 1 := rfl
      have hadd : Op.stringOp .add s ⟨#[33]⟩ = pure (.string (s ++ ⟨#[33]⟩)) := by unfold Op.stringOp; simp [hsz1]; intro h; omega
      clear hs
      go_wp2_with fail
      go_region_held3 (fun w' => w'.cell? ⟨bx, 0, none⟩ = some (.pointer (some ⟨xb, 0, none⟩)) ∧ w'.cell? ⟨kl, j, none⟩ = some (.string s)) (first | exact ⟨c0, c1⟩ | exact HC.out _ _ hG' | go_keep) ((go_at_call 11; refine (HP.out _ (HG.out.on ((Below.refl _ _).drew))).mono ?_; rintro e w' ⟨⟨a, b, rfl⟩, hG'⟩))
      have HG' : Hid (GS w xb bx bf bt br fr to (some ⟨kl, 0, none⟩) L S (pG L (j + 1)) w') := hG'
      clear hG'
      go_wp2_with fail
      go_roundg (L.length - (j + 1))
      case measure => omega
      case rel => exact ⟨j + 1, by omega, rfl, by go_num, HG'.out⟩
    · have ej : j = L.length := by omega
      subst ej
      have hltI : ¬ (L.length : Int) < (L.length : Int) := by omega
      clear HG0 hlt hj
      rename World => wa
      generalize hX : pG L L.length = X at HG
      have HX : Hid (pG L L.length = X) := hX
      clear hX
      have hc2 : ∀ {b : Nat} {v : Value}, wa.cell? ⟨b, 0, none⟩ = some v → ∀ o1 o2, ((wa.alloc o1).alloc o2).cell? ⟨b, 0, none⟩ = some v := fun h o1 o2 => cell_later (((Below.refl _ _).alloc (Nat.le_refl _) _).alloc (by simp) _) h
      have c0' := one_cell' HG.out.cbx
      have c0 := hc2 c0'
      have cf := hc2 (one_cell' HG.out.cbf)
      have ct := hc2 (one_cell' HG.out.cbt)
      clear hc2
      have HLen : Hid (Calls Try.prog 15 #[.pointer (some ⟨xb, 0, none⟩)] wa fun e w' => e = .returned (.int .i64 X.length) ∧ w' = wa) := indexLen_any HG.out.ix
      have hfn := func_nil
      go_wp2_with (first
        | (go_at_call 15; refine HLen.out.mono ?_; rintro e w6 ⟨rfl, hw⟩; subst hw)
        | (go_at_call 16; refine (scan_any _ _ _ _).mono ?_; rintro e w7 ⟨rfl, d0, d1, d2, hsz7, hb7⟩))
      -- the loop begins
      have hs6 := HG.out.below.size
      have hsz8 : w6.heap.size + 4 < w7.heap.size := by simp at hsz7; omega
      have hb67 : Below w6.heap.size w6 w7 := (((Below.refl _ _).alloc (Nat.le_refl _) _).alloc (by simp) _).trans (hb7.mono (by simp; omega))
      have kl0 : w7.heap[w6.heap.size]? = some (.cells #[.string ⟨#[]⟩] 9 (0, 0)) := blk_later hb7 (old_new w6 _ _)
      have kc0 : w7.heap[w6.heap.size + 1]? = some (.cells #[.int .i64 0] 3 (0, 0)) := blk_later hb7 (by have := heap_alloc_new (w6.alloc (.cells #[.string ⟨#[]⟩] 9)) (.cells #[.int .i64 0] 3); rw [World.size_alloc] at this; exact this)
      simp only [World.size_alloc] at d0 d1 d2
      obtain ⟨bl, bc, hbl, hbc⟩ : ∃ bl bc, w6.heap.size = bl ∧ w6.heap.size + 1 = bc := ⟨_, _, rfl, rfl⟩
      obtain ⟨S1, HS1⟩ : ∃ S1 : Nat → Prop, Hid (∀ k, S1 k ↔ (k ≠ xb ∧ k ≠ br) ∧ k ≠ bl ∧ k ≠ bc) := ⟨_, fun k => Iff.rfl⟩
      have HG1 : Hid (GS w xb bx bf bt br fr to la L S1 X w7) := by
        have g := HG.out.on hb67
        have hx1 : ∀ k, S k → k < w6.heap.size → S1 k := fun k h1 h2 => (HS1.out k).mpr ⟨(HS0.out k).mp h1, by omega, by omega⟩
        have hxlt := HG.out.ix.lt
        have hbrlt := idx_lt HG.out.cbr
        exact ⟨(HG.out.ix.weaken hx1 (fun h => ((HS1.out xb).mp h).1.1 rfl)).on hb67, (HG.out.row.weaken hx1).on hb67, g.cbx, g.cbf, g.cbt, g.cbr, g.below, fun k hk => (HS1.out k).mpr ⟨⟨by omega, by omega⟩, by omega, by omega⟩, g.lo, g.ne⟩
      have hneq : bl ≠ xb ∧ bl ≠ bx ∧ bl ≠ bf ∧ bl ≠ bt ∧ bl ≠ br := by
        have h1 := HG.out.ix.lt
        have h2 := idx_lt HG.out.cbr
        have h3 := idx_lt HG.out.cbx
        have h4 := idx_lt HG.out.cbf
        have h5 := idx_lt HG.out.cbt
        omega
      have hneq2 : bc ≠ xb ∧ bc ≠ bx ∧ bc ≠ bf ∧ bc ≠ bt ∧ bc ≠ br := by
        have h1 := HG.out.ix.lt
        have h2 := idx_lt HG.out.cbr
        have h3 := idx_lt HG.out.cbx
        have h4 := idx_lt HG.out.cbf
        have h5 := idx_lt HG.out.cbt
        omega
      have hlb : w.heap.size ≤ bl ∧ w.heap.size ≤ bc ∧ bl < w7.heap.size ∧ bc < w7.heap.size ∧ bl ≠ bc := by omega
      rw [hbl] at kl0 d0 d1 d2
      rw [hbc] at kc0
      obtain ⟨nt, tp, hxc, hT⟩ := HG1.out.ix.tree
      have HStop : Hid (SeqStopsK (α := Ran (rng fr.data.toList to.data.toList X)) Fence.wide (5 - 1) Try.prog 39 #[.pointer (some ⟨w6.heap.size + 1 + 1, 0, none⟩), .pointer (some ⟨w6.heap.size + 1 + 1 + 1, 0, none⟩), .pointer (some ⟨w6.heap.size + 1 + 1 + 2, 0, none⟩)] encR (KpS fun k => S1 k ∧ k < w7.heap.size) (fun ys => ys = (rng fr.data.toList to.data.toList X).attach) (fun pre => pre <+: (rng fr.data.toList to.data.toList X).attach) (rng fr.data.toList to.data.toList X).attach.length w7) :=
        scan_stops (n := nt) (tp := tp) hfr (fun k h => h.2) (by rw [hbl]; exact d0) (by rw [hbl]; exact d1) (by rw [hbl]; exact d2) (one_cell' hxc) (hT.weaken fun k h1 h2 => ⟨h1, h2⟩)
      have hXs : Srt X := HG1.out.ix.srt
      rw [hbc] at HStop ⊢
      rw [hbl] at ⊢
      have hw7 : w.heap.size ≤ w7.heap.size := HG1.out.below.size
      have HI0 : Hid (GS w xb bx bf bt br fr to la L S1 X w7 ∧ w7.heap[bl]? = some (.cells #[.string ⟨#[]⟩] 9 (0, 0)) ∧ w7.heap[bc]? = some (.cells #[.int .i64 0] 3 (0, 0))) := ⟨HG1.out, kl0, kc0⟩
      clear d0 d1 d2 hb7 hsz7 hb67 kl0 kc0 hT hxc HG HG1 c0 c0' cf ct HLen
      generalize hact : ({ tmps := _, defers := _ } : Act) = a0
      refine (wpIn_wide (n := 5)).1 ?_
      refine wpIn_rangeFunc_ownF rfl (by decide) (gf := 39) (lb := #[.pointer (some ⟨bc + 1, 0, none⟩), .pointer (some ⟨bc + 1 + 1, 0, none⟩), .pointer (some ⟨bc + 1 + 2, 0, none⟩)]) (by rw [← hact]; rfl) trivial (enters_of Try.func39 (by kernel_rfl) rfl)
        HStop.out kpS_t (kpS_b (fun k h => h.2) (Nat.le_refl _)) (Below.refl _ _) (fun _ => rfl)
        (fun pre W => Hid (GS w xb bx bf bt br fr to la L S1 (dels (valsOf pre) X) W ∧ W.heap[bl]? = some (.cells #[.string (lastOf pre)] 9 (0, 0)) ∧ W.heap[bc]? = some (.cells #[.int .i64 pre.length] 3 (0, 0)) ∧ w7.heap.size ≤ W.heap.size))
        (fun c pre W => c = .ret ∧ ¬ pre <+: (rng fr.data.toList to.data.toList X).attach)
        ?own (fun c s A B row hs hg hr => hs) ?start
        (fun x => { tmps := (((a0.tmps.setIfInBounds 59 (.string ⟨x.1.1.toArray⟩)).setIfInBounds 60 (.string x.1.2)).setIfInBounds 15 (.string ⟨x.1.1.toArray⟩)).setIfInBounds 16 (.string x.1.2), defers := [] }) ?assign ?body ?done ?stop
      case own =>
        intro pre W W' row h hg hr
        have blk : ∀ {b : Nat} {ob : Obj}, W.heap[b]? = some ob → ob.isCells = true → W'.heap[b]? = some ob := fun h1 h2 => ((Turned.block ⟨row, hg, fun r e => (hr r e).2⟩ ⟨_, h1, h2⟩)).trans h1
        exact ⟨h.out.1.turn hw7 hg hr, blk h.out.2.1 rfl, blk h.out.2.2.1 rfl, Nat.le_trans h.out.2.2.2 hg.size⟩
      case start => exact ⟨HI0.out.1, HI0.out.2.1, HI0.out.2.2, Nat.le_refl _⟩
      case assign =>
        intro l x W K hK
        rw [← hact] at hK ⊢
        simp [encR] at hK ⊢
        gi_wp2
        exact hK
      case body =>
        intro l pre x W hI hlen
        rw [← hact]
        have hN300 : (rng fr.data.toList to.data.toList X).attach.length ≤ 300 := by
          rw [List.length_attach]
          have h1 : (rng fr.data.toList to.data.toList X).length ≤ X.length := List.length_filter_le _ _
          have h2 := len_pG L L.length
          rw [HX.out] at h2
          omega
        obtain ⟨hxX, hxf, hxt⟩ := mem_rng.mp x.2
        obtain ⟨kk, hkL, hxe⟩ := (mem_pG L x.1).mp (by rw [HX.out]; exact hxX)
        have hx1 : x.1.1 = kof kk := by rw [hxe]
        have hx2 : x.1.2 = kk ++ ⟨#[33]⟩ := by rw [hxe]; rfl
        have hxk : (⟨x.1.1.toArray⟩ : ByteArray) = kk := by rw [hx1]; exact str_back kk
        rw [hx1] at hxf hxt
        have h2 : Op.bytesLess kk.toList fr.toList = false := by
          rw [less_back]
          cases h : Op.bytesLess kk.data.toList fr.data.toList with
          | false => rfl
          | true => exact absurd h hxf
        have h3 : to.toList.isEmpty = true ∨ (to.toList.isEmpty = false ∧ Op.bytesLess kk.toList to.toList = true) := by
          rw [empty_back, less_back]
          cases h : to.data.toList.isEmpty with
          | true => exact .inl rfl
          | false =>
            rcases hxt with h4 | h4
            · rw [h4] at h; cases h
            · exact .inr ⟨rfl, h4⟩
        have hk64 : kk.size ≤ 64 := HL64.out kk hkL
        have hsum : kk.size + 1 ≤ 9223372036854775807 := by omega
        have hsz1 : (⟨#[33]⟩ : ByteArray).size = 1 := rfl
        obtain ⟨hG, hbl7, hbc7, hWsz⟩ := hI.out
        have c0 := one_cell' hG.cbx
        have cf := one_cell' hG.cbf
        have ct := one_cell' hG.cbt
        have cl := one_cell' hbl7
        have cc := one_cell' hbc7
        have fl := one_free' hbl7
        have fc := one_free' hbc7
        have cr := one_cell' hG.cbr
        have frr := one_free' hG.cbr
        have hS1l : ¬ S1 bl := fun h => ((HS1.out bl).mp h).2.1 rfl
        have hS1c : ¬ S1 bc := fun h => ((HS1.out bc).mp h).2.2 rfl
        -- the world ahead of Delete, and what Delete does
        obtain ⟨c, hc⟩ : ∃ c : Int, (pre.length : Int) = c := ⟨_, rfl⟩
        have hcb : 0 ≤ c ∧ c < 300 := by omega
        obtain ⟨hd, hhd⟩ : ∃ b, (lk (kof kk) (dels (valsOf pre) X)).isSome = b := ⟨_, rfl⟩
        obtain ⟨ls, hls⟩ : ∃ s, lastOf pre = s := ⟨_, rfl⟩
        have hlb2 : W.heap.size = W.heap.size := rfl
        have HD : Hid (Calls Try.prog 12 #[.pointer (some ⟨xb, 0, none⟩), .string kk] ((W.setCell ⟨bl, 0, none⟩ (.string kk)).setCell ⟨bc, 0, none⟩ (.int .i64 (c + 1))) fun e w8 => (∃ u, e = .returned (.tuple #[.string u, .bool hd])) ∧ Hid (KeepsOthers W w8 ∧ KpS (fun k => S1 k ∧ k < w7.heap.size) W w8 ∧ GS w xb bx bf bt br fr to la L S1 (dels (valsOf (pre ++ [x])) X) w8 ∧ w8.heap[bl]? = some (.cells #[.string (lastOf (pre ++ [x]))] 9 (0, 0)) ∧ w8.heap[bc]? = some (.cells #[.int .i64 (pre ++ [x]).length] 3 (0, 0)) ∧ w7.heap.size ≤ w8.heap.size)) := by
          have g1 := hG.box (.string kk) hS1l hneq hlb.1
          have g2 := g1.box (.int .i64 (c + 1)) hS1c hneq2 hlb.2.1
          have e1 : ((W.setCell ⟨bl, 0, none⟩ (.string kk)).setCell ⟨bc, 0, none⟩ (.int .i64 (c + 1))).heap[bl]? = some (.cells #[.string kk] 9 (0, 0)) := by
            rw [Below.heap_setCell _ _ _ _ hlb.2.2.2.2]
            have := Lib.heap_setCell_same (i := 0) hbl7 (.string kk)
            rw [this]; rfl
          have e2 : ((W.setCell ⟨bl, 0, none⟩ (.string kk)).setCell ⟨bc, 0, none⟩ (.int .i64 (c + 1))).heap[bc]? = some (.cells #[.int .i64 (c + 1)] 3 (0, 0)) := by
            have h1 : (W.setCell ⟨bl, 0, none⟩ (.string kk)).heap[bc]? = some (.cells #[.int .i64 pre.length] 3 (0, 0)) := (Below.heap_setCell _ _ _ _ (fun e => hlb.2.2.2.2 e.symm)).trans hbc7
            have := Lib.heap_setCell_same (i := 0) h1 (.int .i64 (c + 1))
            rw [this]; rfl
          have hsW : ((W.setCell ⟨bl, 0, none⟩ (.string kk)).setCell ⟨bc, 0, none⟩ (.int .i64 (c + 1))).heap.size = W.heap.size := by simp [World.setCell]
          refine (delete_any g2.opn g2.ix (by omega)).mono ?_
          rintro e w8 ⟨he, hix, hbut⟩
          refine ⟨⟨_, by rw [he, hhd]⟩, ?_, ?_, ?_, ?_, ?_, by have := hbut.size; rw [hsW] at this; omega⟩
          · refine ((KeepsOthers.setCell W _ _).trans (KeepsOthers.setCell _ _ _)).trans ⟨hbut.size, fun k o hk ho => ?_⟩
            refine (hbut.block k (idx_lt hk) (fun e => ?_)).trans hk
            subst e
            obtain ⟨n1, tp1, hx1, _⟩ := g2.ix.tree
            rw [hx1] at hk; cases hk; cases ho
          · refine ⟨fun k hk => ?_, by have := hbut.size; rw [hsW] at this; exact this⟩
            obtain ⟨⟨q1, q2⟩, q3, q4⟩ := (HS1.out k).mp hk.1
            rw [hbut.block k (by rw [hsW]; exact Nat.lt_of_lt_of_le hk.2 hWsz) q1, Below.heap_setCell _ _ _ _ q4, Below.heap_setCell _ _ _ _ q3]
          · have := g2.but hix hbut
            rw [valsOf_snoc, dels_snoc, hx1]; exact this
          · rw [lastOf_snoc, hxk]; exact but_blk hbut hneq.1 e1
          · have := but_blk hbut hneq2.1 e2
            rw [this]; simp [← hc]
        have HB : Hid (pre ++ [x] <+: (rng fr.data.toList to.data.toList X).attach → (0 < c → Op.bytesLess kk.toList ls.toList = false ∧ (kk.toList == ls.toList) = false) ∧ hd = true) := fun hgood => by
          have hRs : Srt (rng fr.data.toList to.data.toList X) := List.Pairwise.filter _ hXs
          refine ⟨fun hcp => ?_, ?_⟩
          · have hp : pre ≠ [] := fun e => by rw [e] at hc; simp at hc; omega
            have := good_last hRs hgood hp
            rw [hls, hx1] at this
            refine ⟨?_, ?_⟩
            · rw [less_back]
              cases h : Op.bytesLess kk.data.toList ls.data.toList with
              | false => rfl
              | true => exact absurd h (klt_asymm this)
            · cases h : (kk.toList == ls.toList) with
              | false => rfl
              | true =>
                have h5 : kk.data.toList = ls.data.toList := by rw [Lib.toList_data, Lib.toList_data] at h; simpa using h
                unfold kof at this
                rw [h5] at this
                exact absurd this (klt_irrefl _)
          · have := good_there hXs hRs (fun e he => (mem_rng.mp he).1) hgood
            rw [hx1] at this
            rw [← hhd, this]; rfl
        have HKo : Hid (∀ v1 v2 v3, KeepsOthers W (W.setCell ⟨br, 0, none⟩ v3) ∧ KeepsOthers W (((W.setCell ⟨bl, 0, none⟩ v1).setCell ⟨bc, 0, none⟩ v2).setCell ⟨br, 0, none⟩ v3)) := fun v1 v2 v3 => ⟨KeepsOthers.setCell _ _ _, ((KeepsOthers.setCell W _ _).trans (KeepsOthers.setCell _ _ _)).trans (KeepsOthers.setCell _ _ _)⟩
        rw [hls] at cl
        rw [hc] at cc
        clear hG hbl7 hbc7 hI hxf hxt hxe hxX hkL hx1 hhd hls hlen hN300 hc
        simp only [hxk, hx2]
        simp
        rcases h3 with h3 | ⟨h3, h3b⟩
        all_goals
          by_cases hcz : 0 < c
          · have hczd : decide (0 < c) = true := by simp [hcz]
            cases hle : Op.bytesLess kk.toList ls.toList with
            | true =>
              gi_wp2
              exact ⟨(HKo.out .nilFunc .nilFunc _).1, rfl, fun hg => by have := ((HB.out hg).1 hcz).1; rw [hle] at this; cases this⟩
            | false =>
              cases heq : (kk.toList == ls.toList) with
              | true =>
                gi_wp2
                exact ⟨(HKo.out .nilFunc .nilFunc _).1, rfl, fun hg => by have := ((HB.out hg).1 hcz).2; rw [heq] at this; cases this⟩
              | false =>
                cases hd with
                | true =>
                  gi_wp2_with (refine ⟨trivial, ?_⟩; gi_at_call 12; refine (CallsIn.inRound l (callsIn_wide.2 HD.out)).mono ?_; rintro e w8 ⟨⟨u, rfl⟩, H8⟩; have cr8 := one_cell' H8.out.2.2.1.cbr; have fr8 := one_free' H8.out.2.2.1.cbr)
                  exact ⟨H8.out.1, H8.out.2.1, H8.out.2.2⟩
                | false =>
                  gi_wp2_with (refine ⟨trivial, ?_⟩; gi_at_call 12; refine (CallsIn.inRound l (callsIn_wide.2 HD.out)).mono ?_; rintro e w8 ⟨⟨u, rfl⟩, H8⟩; have cr8 := one_cell' H8.out.2.2.1.cbr; have fr8 := one_free' H8.out.2.2.1.cbr)
                  exact ⟨H8.out.1.trans (KeepsOthers.setCell _ _ _), rfl, fun hg => by have := (HB.out hg).2; cases this⟩
          · have hczd : decide (0 < c) = false := by simp; omega
            have hcz2 : c ≤ 0 := by omega
            cases hd with
            | true =>
              gi_wp2_with (refine ⟨trivial, ?_⟩; gi_at_call 12; refine (CallsIn.inRound l (callsIn_wide.2 HD.out)).mono ?_; rintro e w8 ⟨⟨u, rfl⟩, H8⟩; have cr8 := one_cell' H8.out.2.2.1.cbr; have fr8 := one_free' H8.out.2.2.1.cbr)
              exact ⟨H8.out.1, H8.out.2.1, H8.out.2.2⟩
            | false =>
              gi_wp2_with (refine ⟨trivial, ?_⟩; gi_at_call 12; refine (CallsIn.inRound l (callsIn_wide.2 HD.out)).mono ?_; rintro e w8 ⟨⟨u, rfl⟩, H8⟩; have cr8 := one_cell' H8.out.2.2.1.cbr; have fr8 := one_free' H8.out.2.2.1.cbr)
              exact ⟨H8.out.1.trans (KeepsOthers.setCell _ _ _), rfl, fun hg => by have := (HB.out hg).2; cases this⟩
      case done =>
        rintro D ys W hD rfl hI hK
        rw [← hact]
        rw [valsOf_all, List.length_attach] at hI
        obtain ⟨Y, hY⟩ : ∃ Y, dels (rng fr.data.toList to.data.toList X) X = Y := ⟨_, rfl⟩
        obtain ⟨c, hc⟩ : ∃ c : Nat, (rng fr.data.toList to.data.toList X).length = c := ⟨_, rfl⟩
        obtain ⟨m, hm⟩ : ∃ m : Nat, X.length = m := ⟨_, rfl⟩
        have hYc : Y.length + c = m := by rw [← hY, ← hc, ← hm]; exact len_rng hXs
        have hm300 : m ≤ 300 := by
          have h2 := len_pG L L.length
          rw [HX.out] at h2
          omega
        have HY : Hid (∀ s ∈ L, (lk s.data.toList Y).isSome = !inR fr.data.toList to.data.toList s.data.toList) := fun s hs => by
          rw [← hY]
          exact lk_dels_rng hXs (v := bang s) (by rw [← HX.out]; exact (mem_pG L _).mpr ⟨s, hs, rfl⟩)
        rw [hY, hc] at hI
        rw [hm]
        have HI : Hid (GS w xb bx bf bt br fr to la L S1 Y W ∧ W.heap[bc]? = some (.cells #[.int .i64 c] 3 (0, 0)) ∧ W.heap[D]? = some (.deferred (some []))) := ⟨hI.out.1, hI.out.2.2.1, hK⟩
        clear hI hK hY hc hm hact HI0 HStop hXs HX hbl hbc
        go_wp2_with fail
        go_loopg [19] L.length (fun gk s19 wr => ∃ j : Nat, j ≤ L.length ∧ gk = L.length - j ∧ s19 = .int .i64 j ∧ Hid (GS w xb bx bf bt br fr to la L S1 Y wr ∧ wr.heap[bc]? = some (.cells #[.int .i64 c] 3 (0, 0)) ∧ wr.heap[D]? = some (.deferred (some []))))
        case atStart => exact ⟨0, Nat.zero_le _, rfl, rfl, HI.out⟩
        case round =>
          obtain ⟨j, hj, rfl, rfl, HG⟩ := hrel
          rename World => wa
          by_cases hlt : j < L.length
          · obtain ⟨s, hs⟩ : ∃ s, L[j]? = some s := ⟨L[j], List.getElem?_eq_getElem hlt⟩
            obtain ⟨kl, hla, hrow⟩ := HG.out.1.row.at hlt
            subst hla
            have c0 := one_cell' HG.out.1.cbx
            have cf := one_cell' HG.out.1.cbf
            have ct := one_cell' HG.out.1.cbt
            have c1 := hrow j s hs
            have hltI : (j : Int) < (L.length : Int) := by omega
            have hs64 : s.size ≤ 64 := HL64.out s (List.mem_of_getElem? hs)
            have hth := HY.out s (List.mem_of_getElem? hs)
            have HGet : Hid (∀ w1, Below wa.heap.size wa w1 → Calls Try.prog 13 #[.pointer (some ⟨xb, 0, none⟩), .string s] w1 fun e w' => (∃ u, e = .returned (.tuple #[.string u, .bool (!inR fr.data.toList to.data.toList s.data.toList)])) ∧ Below w1.heap.size w1 w' ∧ Below wa.heap.size wa w') := fun w1 hb => by
              refine (indexGet_any (HG.out.1.ix.on hb) (by omega)).mono ?_
              rintro e w' ⟨rfl, h1⟩
              exact ⟨⟨_, by rw [hth]⟩, h1, hb.trans (h1.mono hb.size)⟩
            have HG' : Hid (∀ w', Below wa.heap.size wa w' → GS w xb bx bf bt br fr to (some ⟨kl, 0, none⟩) L S1 Y w' ∧ w'.heap[bc]? = some (.cells #[.int .i64 c] 3 (0, 0)) ∧ w'.heap[D]? = some (.deferred (some []))) := fun w' hb => ⟨HG.out.1.on hb, blk_later hb HG.out.2.1, blk_later hb HG.out.2.2⟩
            have hir : inR fr.data.toList to.data.toList s.data.toList = (!(Op.bytesLess s.toList fr.toList) && (to.toList.isEmpty || Op.bytesLess s.toList to.toList)) := by unfold inR; rw [less_back, empty_back, less_back]
            rw [hir] at HGet
            clear hrow hs hth hir
            have HC : Hid (∀ w', Below wa.heap.size wa w' → w'.cell? ⟨bx, 0, none⟩ = some (.pointer (some ⟨xb, 0, none⟩)) ∧ w'.cell? ⟨kl, j, none⟩ = some (.string s)) := fun w' hb => ⟨cell_later hb c0, cell_later hb c1⟩
            cases h1 : Op.bytesLess s.toList fr.toList with
            | true =>
              rw [h1] at HGet
              simp at HGet
              go_wp2_with fail
              go_quiet (fail)
              go_wp2_with fail
              go_region_held3 (fun w' => w'.cell? ⟨bx, 0, none⟩ = some (.pointer (some ⟨xb, 0, none⟩)) ∧ w'.cell? ⟨kl, j, none⟩ = some (.string s)) (first | exact ⟨c0, c1⟩ | exact HC.out _ hb2 | go_keep) ((go_at_call 13; refine (HGet.out _ (below_drewN'' (Below.refl _ _) _)).mono ?_; rintro e w' ⟨⟨u, rfl⟩, hb1, hb2⟩))
              go_wp2_with fail
              go_roundg (L.length - (j + 1))
              case measure => omega
              case rel => exact ⟨j + 1, by omega, rfl, by go_num, HG'.out _ hb2⟩
            | false =>
              rw [h1] at HGet
              cases h2 : to.toList.isEmpty with
              | true =>
                rw [h2] at HGet
                simp at HGet
                go_wp2_with fail
                go_quiet (fail)
                go_wp2_with fail
                go_region_held3 (fun w' => w'.cell? ⟨bx, 0, none⟩ = some (.pointer (some ⟨xb, 0, none⟩)) ∧ w'.cell? ⟨kl, j, none⟩ = some (.string s)) (first | exact ⟨c0, c1⟩ | exact HC.out _ hb2 | go_keep) ((go_at_call 13; refine (HGet.out _ (below_drewN'' (Below.refl _ _) _)).mono ?_; rintro e w' ⟨⟨u, rfl⟩, hb1, hb2⟩))
                go_wp2_with fail
                go_roundg (L.length - (j + 1))
                case measure => omega
                case rel => exact ⟨j + 1, by omega, rfl, by go_num, HG'.out _ hb2⟩
              | false =>
                rw [h2] at HGet
                cases h3 : Op.bytesLess s.toList to.toList with
                | true =>
                  rw [h3] at HGet
                  simp at HGet
                  go_wp2_with fail
                  go_quiet (fail)
                  go_wp2_with fail
                  go_region_held3 (fun w' => w'.cell? ⟨bx, 0, none⟩ = some (.pointer (some ⟨xb, 0, none⟩)) ∧ w'.cell? ⟨kl, j, none⟩ = some (.string s)) (first | exact ⟨c0, c1⟩ | exact HC.out _ hb2 | go_keep) ((go_at_call 13; refine (HGet.out _ (below_drewN'' (Below.refl _ _) _)).mono ?_; rintro e w' ⟨⟨u, rfl⟩, hb1, hb2⟩))
                  go_wp2_with fail
                  go_roundg (L.length - (j + 1))
                  case measure => omega
                  case rel => exact ⟨j + 1, by omega, rfl, by go_num, HG'.out _ hb2⟩
                | false =>
                  rw [h3] at HGet
                  simp at HGet
                  go_wp2_with fail
                  go_quiet (fail)
                  go_wp2_with fail
                  go_region_held3 (fun w' => w'.cell? ⟨bx, 0, none⟩ = some (.pointer (some ⟨xb, 0, none⟩)) ∧ w'.cell? ⟨kl, j, none⟩ = some (.string s)) (first | exact ⟨c0, c1⟩ | exact HC.out _ hb2 | go_keep) ((go_at_call 13; refine (HGet.out _ (below_drewN'' (Below.refl _ _) _)).mono ?_; rintro e w' ⟨⟨u, rfl⟩, hb1, hb2⟩))
                  go_wp2_with fail
                  go_roundg (L.length - (j + 1))
                  case measure => omega
                  case rel => exact ⟨j + 1, by omega, rfl, by go_num, HG'.out _ hb2⟩
          · have ej : j = L.length := by omega
            subst ej
            have hltI : ¬ (L.length : Int) < (L.length : Int) := by omega
            obtain ⟨hG, hbc, hKD⟩ := HG.out
            have c0 := one_cell' hG.cbx
            have cc := one_cell' hbc
            have cr := one_cell' hG.cbr
            have frr := one_free' hG.cbr
            obtain ⟨d, hd⟩ : ∃ d, Y.length = d := ⟨_, rfl⟩
            have HLen : Hid (∀ w1, Below wa.heap.size wa w1 → Calls Try.prog 15 #[.pointer (some ⟨xb, 0, none⟩)] w1 fun e w' => e = .returned (.int .i64 d) ∧ w' = w1) := fun w1 hb => (indexLen_any (hG.ix.on hb)).mono (by rintro e w' ⟨rfl, rfl⟩; exact ⟨by rw [hd], rfl⟩)
            clear hlt hj HY HL64 HI
            have HE : Hid (GS w xb bx bf bt br fr to la L S1 Y wa ∧ wa.heap[D]? = some (.deferred (some []))) := ⟨hG, hKD⟩
            have hsub : IntKind.i64.wrap ((m : Int) - c) = d := by rw [show (m : Int) - c = d by omega]; simp [IntKind.wrap, IntKind.bits, IntKind.signed]; omega
            have hbxr : bx ≠ br := by intro e; subst e; have := hG.cbx.symm.trans hG.cbr; cases this
            have hbcr : bc ≠ br := hneq2.2.2.2.2
            have cr' : (wa.cell? ⟨br, 0, none⟩).isSome = true := by rw [cr]; rfl
            have HKp : Hid (∀ (w' : World) v, (w'.cell? ⟨bx, 0, none⟩ = some (.pointer (some ⟨xb, 0, none⟩)) ∧ w'.cell? ⟨bc, 0, none⟩ = some (.int .i64 c) ∧ (w'.cell? ⟨br, 0, none⟩).isSome = true ∧ w'.frozen? ⟨br, 0, none⟩ = false) → ((w'.setCell ⟨br, 0, none⟩ v).cell? ⟨bx, 0, none⟩ = some (.pointer (some ⟨xb, 0, none⟩)) ∧ (w'.setCell ⟨br, 0, none⟩ v).cell? ⟨bc, 0, none⟩ = some (.int .i64 c) ∧ ((w'.setCell ⟨br, 0, none⟩ v).cell? ⟨br, 0, none⟩).isSome = true ∧ (w'.setCell ⟨br, 0, none⟩ v).frozen? ⟨br, 0, none⟩ = false)) := fun w' v ⟨h1, h2, h3, h4⟩ => by
              refine ⟨?_, ?_, ?_, ?_⟩
              · exact (World.cell?_of_block (w := w') (a := ⟨bx, 0, none⟩) (Below.heap_setCell _ _ _ _ hbxr)).trans h1
              · exact (World.cell?_of_block (w := w') (a := ⟨bc, 0, none⟩) (Below.heap_setCell _ _ _ _ hbcr)).trans h2
              · rw [World.cell?_setCell_same' _ _ _ h3]; rfl
              · simpa using h4
            clear hG hbc hKD HG hd hYc
            go_wp2_with fail
            go_region_held3 (fun w' => w'.cell? ⟨bx, 0, none⟩ = some (.pointer (some ⟨xb, 0, none⟩)) ∧ w'.cell? ⟨bc, 0, none⟩ = some (.int .i64 c) ∧ (w'.cell? ⟨br, 0, none⟩).isSome = true ∧ w'.frozen? ⟨br, 0, none⟩ = false) (first | exact ⟨c0, cc, cr', frr⟩ | exact HKp.out (wa.drewN 1) _ ⟨c0, cc, cr', frr⟩ | exact HKp.out (wa.drewN _) _ ⟨c0, cc, cr', frr⟩ | go_keep) ((go_at_call 15; refine (HLen.out _ (below_drewN'' (Below.refl _ _) _)).mono ?_; rintro e w' ⟨rfl, rfl⟩))
            go_wp2_with fail
            obtain ⟨hG, hKD⟩ := HE.out
            have hK' : ((wa.drewN 1).setCell ⟨br, 0, none⟩ (.bool true)).heap[D]? = some (.deferred (some [])) := (KeepsOthers.setCell (wa.drewN 1) ⟨br, 0, none⟩ (.bool true)).same D _ hKD rfl
            refine ⟨by simp, .inl ⟨_, _, rfl, run_takeDeferred hK', ?_⟩⟩
            have hc5 := cell_kept (World.cell?_setCell_same' (wa.drewN 1) ⟨br, 0, none⟩ (.bool true) cr') (grownBy_putObj' _ D (.deferred none)) (fun r e => by cases e; exact ⟨_, hK', rfl⟩)
            refine ⟨.bool true, ?_, rfl, ((below_drewN'' hG.below 1).setCell (p := ⟨br, 0, none⟩) hG.lo.2 _).trans (belowK_b (w := w) (Nat.le_refl _) _ D _ _ (Nat.le_trans hw7 hD) hK' rfl rfl)⟩
            simp [results, Try.f4, go_sem, hc5]
      case stop =>
        rintro D c pre W hD hsp ⟨rfl, hno⟩ hK
        exact absurd hsp hno

end Go.Proofs.Ytcgjppacnhmjlaa
