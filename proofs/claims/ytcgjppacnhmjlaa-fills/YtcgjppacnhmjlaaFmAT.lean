/- Own texts: PWithC, PWithD. -/
import Derived.Test.YtcgjppacnhmjlaaFmAS
import Derived.Deep.RegionWith

section
set_option linter.unusedVariables false
set_option linter.unusedSimpArgs false
set_option linter.unusedSectionVars false
set_option linter.unusedVariables false
set_option linter.unusedSimpArgs false
namespace Go.Proofs.Ytcgjppacnhmjlaa
open Go.RowKit
attribute [local go_sem ↓] Go.wp_at_zero Go.wp_at_succ

set_option maxRecDepth 100000 in
set_option maxHeartbeats 400000 in
theorem with_new {w : World} {t vb pos : Nat} {key pre : ByteArray} {vp : Option Addr} {bv : Value} {L1 : World → Nat → Prop} {L2 : World → Nat → Value → Prop} {Post : Ending → World → Prop} (hpc : w.cell? ⟨t, 0, none⟩ = some (.string pre)) (hvc : w.cell? ⟨t, 1, none⟩ = some (.pointer vp)) (hbc : w.cell? ⟨t, 2, none⟩ = some bv) (hk : key.size ≤ 64) (hps : pre.size ≤ 64) (hlt : lcpLen key.data.toList pre.data.toList = pre.size) (hkp : pre.size < key.size)
    (hP : ∀ w1, Below w.heap.size w w1 → Calls Try.prog 102 #[.pointer (some ⟨t, 0, none⟩), .string key] w1 fun e w' => e = .returned (.tuple #[.int .i64 pos, .bool false]) ∧ Below w.heap.size w w')
    (hL : ∀ w1, Below w.heap.size w w1 → Calls Try.prog 90 #[.string key, .pointer (some ⟨vb, 0, none⟩), .slice none 0 0] w1 fun e w' => ∃ t1, e = .returned (.pointer (some ⟨t1, 0, none⟩)) ∧ L1 w' t1 ∧ Below w.heap.size w w')
    (hI : ∀ w1 t1, L1 w1 t1 → Below w.heap.size w w1 → Calls Try.prog 104 #[bv, .int .i64 pos, .pointer (some ⟨t1, 0, none⟩)] w1 fun e w' => ∃ bv', e = .returned bv' ∧ L2 w' t1 bv' ∧ Below w.heap.size w w')
    (hJ : ∀ w1 t1 bv', L2 w1 t1 bv' → Below w.heap.size w w1 → Calls Try.prog 90 #[.string pre, .pointer vp, bv'] w1 fun e w' => ∃ t', e = .returned (.pointer (some ⟨t', 0, none⟩)) ∧ Below w.heap.size w w' ∧ Post e w') :
    Calls Try.prog 84 #[.pointer (some ⟨t, 0, none⟩), .string key, .pointer (some ⟨vb, 0, none⟩)] w Post := by
  have hsl := fun w1 => sharedLength_any key pre w1 (by unfold maxLen; omega) (by unfold maxLen; omega)
  rw [hlt] at hsl
  have HS : Hid (∀ w1, Calls Try.prog 78 #[.string key, .string pre] w1 fun e w' => e = .returned (.int .i64 pre.size) ∧ ∃ n, w' = w1.drewN n) := hsl
  have HP : Hid (∀ w1, Below w.heap.size w w1 → Calls Try.prog 102 #[.pointer (some ⟨t, 0, none⟩), .string key] w1 fun e w' => e = .returned (.tuple #[.int .i64 pos, .bool false]) ∧ Below w.heap.size w w') := hP
  have HL : Hid (∀ w1, Below w.heap.size w w1 → Calls Try.prog 90 #[.string key, .pointer (some ⟨vb, 0, none⟩), .slice none 0 0] w1 fun e w' => ∃ t1, e = .returned (.pointer (some ⟨t1, 0, none⟩)) ∧ L1 w' t1 ∧ Below w.heap.size w w') := hL
  have HI : Hid (∀ w1 t1, L1 w1 t1 → Below w.heap.size w w1 → Calls Try.prog 104 #[bv, .int .i64 pos, .pointer (some ⟨t1, 0, none⟩)] w1 fun e w' => ∃ bv', e = .returned bv' ∧ L2 w' t1 bv' ∧ Below w.heap.size w w') := hI
  have HJ : Hid (∀ w1 t1 bv', L2 w1 t1 bv' → Below w.heap.size w w1 → Calls Try.prog 90 #[.string pre, .pointer vp, bv'] w1 fun e w' => ∃ t', e = .returned (.pointer (some ⟨t', 0, none⟩)) ∧ Below w.heap.size w w' ∧ Post e w') := hJ
  have hnl : ¬ (pre.size : Int) < (pre.size : Int) := by omega
  have hne : ¬ (pre.size : Int) = (key.size : Int) := by omega
  have HC : Hid (w.cell? ⟨t, 0, none⟩ = some (.string pre) ∧ w.cell? ⟨t, 1, none⟩ = some (.pointer vp) ∧ w.cell? ⟨t, 2, none⟩ = some bv) := ⟨hpc, hvc, hbc⟩
  clear hsl hP hL hI hJ hlt
  go_enter Try.func84, Try.ntmps84
  go_wp2_with (first | (go_at_call 78; refine (HS.out _).mono ?_; rintro e w' ⟨rfl, m, rfl⟩) | (go_at_call 102; refine (HP.out _ (below_drewN'' (Below.refl _ _) _)).mono ?_; rintro e w2 ⟨rfl, hbel0⟩))
  have hpc2 := cell_later hbel0 HC.out.1
  have hvc2 := cell_later hbel0 HC.out.2.1
  have hbc2 := cell_later hbel0 HC.out.2.2
  go_region_held3 (fun w' => w'.cell? ⟨t, 0, none⟩ = some (.string pre) ∧ w'.cell? ⟨t, 1, none⟩ = some (.pointer vp) ∧ w'.cell? ⟨t, 2, none⟩ = some bv)
    (first | exact ⟨cell_later hbel3 HC.out.1, cell_later hbel3 HC.out.2.1, cell_later hbel3 HC.out.2.2⟩ | exact ⟨cell_later hbel2 HC.out.1, cell_later hbel2 HC.out.2.1, cell_later hbel2 HC.out.2.2⟩ | exact ⟨cell_later hbel1 HC.out.1, cell_later hbel1 HC.out.2.1, cell_later hbel1 HC.out.2.2⟩ | go_keep)
    (first
      | (go_at_call_of 90 (Value.string key); refine (HL.out _ hbel0.drew).mono ?_; rintro e w3 ⟨t1, rfl, hl1, hbel1⟩)
      | (go_at_call 104; refine (HI.out _ _ hl1 hbel1).mono ?_; rintro e w4 ⟨bv', rfl, hl2, hbel2⟩)
      | (go_at_call_of 90 (Value.string pre); refine (HJ.out _ _ _ hl2 hbel2).mono ?_; rintro e w5 ⟨t', rfl, hbel3, hpost⟩))
  go_wp2
  exact hpost

set_option maxRecDepth 100000 in
set_option maxHeartbeats 400000 in
theorem with_found {w : World} {t vb pos k o cap c len : Nat} {key pre : ByteArray} {vp : Option Addr} {L1 : World → Nat → Prop} {L2 : World → Nat → Value → Prop} {Post : Ending → World → Prop} (hpc : w.cell? ⟨t, 0, none⟩ = some (.string pre)) (hvc : w.cell? ⟨t, 1, none⟩ = some (.pointer vp)) (hbc : w.cell? ⟨t, 2, none⟩ = some (.slice (some ⟨k, o, none⟩) len cap)) (hcc : w.cell? ⟨k, o + pos, none⟩ = some (.pointer (some ⟨c, 0, none⟩))) (hpos : pos < len) (hlc : len ≤ 256) (hk : key.size ≤ 64) (hps : pre.size ≤ 64) (hlt : lcpLen key.data.toList pre.data.toList = pre.size) (hkp : pre.size < key.size)
    (hP : ∀ w1, Below w.heap.size w w1 → Calls Try.prog 102 #[.pointer (some ⟨t, 0, none⟩), .string key] w1 fun e w' => e = .returned (.tuple #[.int .i64 pos, .bool true]) ∧ Below w.heap.size w w')
    (hL : ∀ w1, Below w.heap.size w w1 → Calls Try.prog 84 #[.pointer (some ⟨c, 0, none⟩), .string key, .pointer (some ⟨vb, 0, none⟩)] w1 fun e w' => ∃ t1, e = .returned (.pointer (some ⟨t1, 0, none⟩)) ∧ L1 w' t1 ∧ Below w.heap.size w w')
    (hI : ∀ w1 t1, L1 w1 t1 → Below w.heap.size w w1 → Calls Try.prog 105 #[.slice (some ⟨k, o, none⟩) len cap, .int .i64 pos, .pointer (some ⟨t1, 0, none⟩)] w1 fun e w' => ∃ bv', e = .returned bv' ∧ L2 w' t1 bv' ∧ Below w.heap.size w w')
    (hJ : ∀ w1 t1 bv', L2 w1 t1 bv' → Below w.heap.size w w1 → Calls Try.prog 90 #[.string pre, .pointer vp, bv'] w1 fun e w' => ∃ t', e = .returned (.pointer (some ⟨t', 0, none⟩)) ∧ Below w.heap.size w w' ∧ Post e w') :
    Calls Try.prog 84 #[.pointer (some ⟨t, 0, none⟩), .string key, .pointer (some ⟨vb, 0, none⟩)] w Post := by
  have hsl := fun w1 => sharedLength_any key pre w1 (by unfold maxLen; omega) (by unfold maxLen; omega)
  rw [hlt] at hsl
  have HS : Hid (∀ w1, Calls Try.prog 78 #[.string key, .string pre] w1 fun e w' => e = .returned (.int .i64 pre.size) ∧ ∃ n, w' = w1.drewN n) := hsl
  have HP : Hid (∀ w1, Below w.heap.size w w1 → Calls Try.prog 102 #[.pointer (some ⟨t, 0, none⟩), .string key] w1 fun e w' => e = .returned (.tuple #[.int .i64 pos, .bool true]) ∧ Below w.heap.size w w') := hP
  have HL : Hid (∀ w1, Below w.heap.size w w1 → Calls Try.prog 84 #[.pointer (some ⟨c, 0, none⟩), .string key, .pointer (some ⟨vb, 0, none⟩)] w1 fun e w' => ∃ t1, e = .returned (.pointer (some ⟨t1, 0, none⟩)) ∧ L1 w' t1 ∧ Below w.heap.size w w') := hL
  have HI : Hid (∀ w1 t1, L1 w1 t1 → Below w.heap.size w w1 → Calls Try.prog 105 #[.slice (some ⟨k, o, none⟩) len cap, .int .i64 pos, .pointer (some ⟨t1, 0, none⟩)] w1 fun e w' => ∃ bv', e = .returned bv' ∧ L2 w' t1 bv' ∧ Below w.heap.size w w') := hI
  have HJ : Hid (∀ w1 t1 bv', L2 w1 t1 bv' → Below w.heap.size w w1 → Calls Try.prog 90 #[.string pre, .pointer vp, bv'] w1 fun e w' => ∃ t', e = .returned (.pointer (some ⟨t', 0, none⟩)) ∧ Below w.heap.size w w' ∧ Post e w') := hJ
  have hnl : ¬ (pre.size : Int) < (pre.size : Int) := by omega
  have hp0 : (0 : Int) ≤ (pos : Int) := Int.natCast_nonneg _
  have hp1 : (pos : Int) < (len : Int) := by omega
  have hne : ¬ (pre.size : Int) = (key.size : Int) := by omega
  have HC : Hid (w.cell? ⟨t, 0, none⟩ = some (.string pre) ∧ w.cell? ⟨t, 1, none⟩ = some (.pointer vp) ∧ w.cell? ⟨t, 2, none⟩ = some (.slice (some ⟨k, o, none⟩) len cap) ∧ w.cell? ⟨k, o + pos, none⟩ = some (.pointer (some ⟨c, 0, none⟩))) := ⟨hpc, hvc, hbc, hcc⟩
  clear hsl hP hL hI hJ hlt
  go_enter Try.func84, Try.ntmps84
  go_wp2_with (first | (go_at_call 78; refine (HS.out _).mono ?_; rintro e w' ⟨rfl, m, rfl⟩) | (go_at_call 102; refine (HP.out _ (below_drewN'' (Below.refl _ _) _)).mono ?_; rintro e w2 ⟨rfl, hbel0⟩))
  have hpc2 := cell_later hbel0 HC.out.1
  have hvc2 := cell_later hbel0 HC.out.2.1
  have hbc2 := cell_later hbel0 HC.out.2.2.1
  have hcc2 := cell_later hbel0 HC.out.2.2.2
  go_region_held3 (fun w' => w'.cell? ⟨t, 0, none⟩ = some (.string pre) ∧ w'.cell? ⟨t, 1, none⟩ = some (.pointer vp) ∧ w'.cell? ⟨t, 2, none⟩ = some (.slice (some ⟨k, o, none⟩) len cap) ∧ w'.cell? ⟨k, o + pos, none⟩ = some (.pointer (some ⟨c, 0, none⟩)))
    (first | exact ⟨cell_later hbel3 HC.out.1, cell_later hbel3 HC.out.2.1, cell_later hbel3 HC.out.2.2.1, cell_later hbel3 HC.out.2.2.2⟩ | exact ⟨cell_later hbel2 HC.out.1, cell_later hbel2 HC.out.2.1, cell_later hbel2 HC.out.2.2.1, cell_later hbel2 HC.out.2.2.2⟩ | exact ⟨cell_later hbel1 HC.out.1, cell_later hbel1 HC.out.2.1, cell_later hbel1 HC.out.2.2.1, cell_later hbel1 HC.out.2.2.2⟩ | go_keep)
    (first
      | (go_at_call 84; refine (HL.out _ hbel0.drew).mono ?_; rintro e w3 ⟨t1, rfl, hl1, hbel1⟩)
      | (go_at_call 105; refine (HI.out _ _ hl1 hbel1).mono ?_; rintro e w4 ⟨bv', rfl, hl2, hbel2⟩)
      | (go_at_call_of 90 (Value.string pre); refine (HJ.out _ _ _ hl2 hbel2).mono ?_; rintro e w5 ⟨t', rfl, hbel3, hpost⟩))
  go_wp2
  exact hpost

end Go.Proofs.Ytcgjppacnhmjlaa
end

section
set_option linter.unusedVariables false
set_option linter.unusedSimpArgs false
set_option linter.unusedSectionVars false
set_option linter.unusedVariables false
set_option linter.unusedSimpArgs false
namespace Go.Proofs.Ytcgjppacnhmjlaa
open Go.RowKit

theorem NewRow.row {S : Nat → Prop} {w w' : World} {g c : Nat} {cs : List Nat} (h : NewRow w w' g c cs) (hS : Open S w) (hne : cs ≠ []) : RowAt S w' (.slice (some ⟨g, 0, none⟩) cs.length c) cs :=
  .inr ⟨g, 0, c, hS g h.lo, rfl, h.cap, h.most, h.br, hne⟩
theorem inserted_row {S : Nat → Prop} {w : World} {bv : Value} {cs : List Nat} {pos t1 : Nat} (hS : Open S w) (hR : RowAt S w bv cs) (hpos : pos ≤ cs.length) (hlen : cs.length ≤ 256) :
    Calls Try.prog 104 #[bv, .int .i64 pos, .pointer (some ⟨t1, 0, none⟩)] w fun e w' => ∃ bv', e = .returned bv' ∧ RowAt S w' bv' (cs.take pos ++ t1 :: cs.drop pos) ∧ Below w.heap.size w w' := by
  rcases hR with ⟨rfl, rfl⟩ | ⟨k, o, cap, h1, rfl, h3, h4, h5, h6⟩
  · obtain rfl : pos = 0 := by simpa using hpos
    refine (inserted_nil t1 w).mono ?_
    rintro e w' ⟨g, c, rfl, h⟩
    exact ⟨_, rfl, h.row hS (by simp), h.below⟩
  · refine (inserted_some k o cap pos t1 cs w h5 h3 hlen hpos h4).mono ?_
    rintro e w' ⟨g, c, rfl, h⟩
    exact ⟨_, rfl, h.row hS (by simp), h.below⟩
theorem replaced_row {S : Nat → Prop} {w : World} {k o cap : Nat} {cs : List Nat} {pos t1 : Nat} (hS : Open S w) (hb : BrAt w k o cs) (hcap : cs.length ≤ cap) (hmost : cap ≤ maxLen) (hpos : pos < cs.length) (hlen : cs.length ≤ 256) :
    Calls Try.prog 105 #[.slice (some ⟨k, o, none⟩) cs.length cap, .int .i64 pos, .pointer (some ⟨t1, 0, none⟩)] w fun e w' => ∃ bv', e = .returned bv' ∧ RowAt S w' bv' (cs.take pos ++ t1 :: cs.drop (pos + 1)) ∧ Below w.heap.size w w' := by
  refine (replaced_some k o cap pos t1 cs w hb hcap hlen hpos hmost).mono ?_
  rintro e w' ⟨g, c, rfl, h⟩
  exact ⟨_, rfl, h.row hS (by simp), h.below⟩

theorem kids_put {S : Nat → Prop} {w : World} {n t1 pos : Nat} {cs : List Nat} {gs : List (List KV)} {g1 : List KV} (hl : cs.length = gs.length) (hp : pos ≤ cs.length) (hC : ∀ (i c : Nat) g, cs[i]? = some c → gs[i]? = some g → RepN S n w c g) (h1 : RepN S n w t1 g1) :
    ∀ (i c : Nat) g, (cs.take pos ++ t1 :: cs.drop pos)[i]? = some c → (gs.take pos ++ g1 :: gs.drop pos)[i]? = some g → RepN S n w c g := by
  intro i c g hc hg
  rw [getElem?_put _ _ _ _ hp] at hc
  rw [getElem?_put _ _ _ _ (hl ▸ hp)] at hg
  by_cases h2 : i < pos
  · rw [if_pos h2] at hc hg; exact hC i c g hc hg
  · rw [if_neg h2] at hc hg
    by_cases h3 : i = pos
    · rw [if_pos h3] at hc hg; cases hc; cases hg; exact h1
    · rw [if_neg h3] at hc hg; exact hC _ c g hc hg
theorem kids_rep {S : Nat → Prop} {w : World} {n t1 pos : Nat} {cs : List Nat} {gs : List (List KV)} {g1 : List KV} (hl : cs.length = gs.length) (hp : pos < cs.length) (hC : ∀ (i c : Nat) g, cs[i]? = some c → gs[i]? = some g → RepN S n w c g) (h1 : RepN S n w t1 g1) :
    ∀ (i c : Nat) g, (cs.take pos ++ t1 :: cs.drop (pos + 1))[i]? = some c → (gs.take pos ++ g1 :: gs.drop (pos + 1))[i]? = some g → RepN S n w c g := by
  intro i c g hc hg
  rw [getElem?_rep _ _ _ _ hp] at hc
  rw [getElem?_rep _ _ _ _ (hl ▸ hp)] at hg
  by_cases h3 : i = pos
  · rw [if_pos h3] at hc hg; cases hc; cases hg; exact h1
  · rw [if_neg h3] at hc hg; exact hC _ c g hc hg

theorem ans_of {S : Nat → Prop} {n : Nat} {l : List KV} {w w1 : World} (hb : Below w.heap.size w w1) {e : Ending} {w' : World} (h : ∃ t', e = .returned (.pointer (some ⟨t', 0, none⟩)) ∧ RepN S n w' t' l ∧ Below w1.heap.size w1 w') :
    ∃ t', e = .returned (.pointer (some ⟨t', 0, none⟩)) ∧ Below w.heap.size w w' ∧ Answers S n l w e w' := by
  obtain ⟨t', rfl, h1, h2⟩ := h
  exact ⟨t', rfl, hb.trans (h2.mono hb.size), t', rfl, h1, hb.trans (h2.mono hb.size)⟩

theorem with_nil {S : Nat → Prop} {w : World} {key : ByteArray} {vb : Nat} {v : Plc} (hS : Open S w) (hk : key.size ≤ 64) (hv : S vb) (hvc : PlAt w vb v) :
    Calls Try.prog 84 #[.pointer none, .string key, .pointer (some ⟨vb, 0, none⟩)] w (Answers S 1 (ins key.data.toList v []) w) := by
  have hj := joined_rep (S := S) (w := w) (n := 0) (p := key) (cs := []) hS hk (ownAt_some hv hvc) (.inl ⟨rfl, rfl⟩) rfl (fun i c g h => by simp at h) (shaped_leaf key.data.toList v) (by simp)
  have HJ : Hid (Calls Try.prog 90 #[.string key, .pointer (some ⟨vb, 0, none⟩), .slice none 0 0] w fun e w' => ∃ t', e = .returned (.pointer (some ⟨t', 0, none⟩)) ∧ RepN S (0 + 1) w' t' [(key.data.toList, v)] ∧ Below w.heap.size w w') := hj
  clear hj
  go_enter Try.func84, Try.ntmps84
  go_wp2_with (go_at_call 90; refine HJ.out.mono ?_; rintro e w' ⟨t', rfl, hr, hb⟩)
  go_ret
  exact ⟨t', rfl, hr, hb⟩

theorem below_drawn (w : World) (m : Nat) : Below w.heap.size w (w.drewN m) := below_drewN'' (Below.refl _ _) m

theorem with_any : ∀ (n : Nat) {S : Nat → Prop} {w : World} {t : Nat} {l : List KV} {key : ByteArray} {vb : Nat} {v : Plc}, Open S w → RepN S n w t l → key.size ≤ 64 → S vb → PlAt w vb v → l.length + 1 ≤ 1000000 →
    Calls Try.prog 84 #[.pointer (some ⟨t, 0, none⟩), .string key, .pointer (some ⟨vb, 0, none⟩)] w (Answers S (n + 1) (ins key.data.toList v l) w)
  | 0, _, _, _, _, _, _, _, _, h, _, _, _, _ => h.elim
  | n + 1, S, w, t, l, key, vb, v, hS, hT, hk, hv, hvc, hm => by
    have hT0 := hT
    obtain ⟨pre, vp, bv, ov, cs, xs, gs, hN, hO, hR, hl, hC, hs⟩ := hT
    have hlen := len_ins_le key.data.toList v l hs.srt
    have hcs : cs.length ≤ 256 := by have := pw_len hs.grps.pw; have := hs.grps.len; omega
    obtain ⟨p1, p2, p3⟩ := lcp_parts key.data.toList pre.data.toList
    have lle1 := lcpLen_le_left key.data.toList pre.data.toList
    have lle2 := lcpLen_le_right key.data.toList pre.data.toList
    rw [← Lib.size_eq] at lle1 lle2
    by_cases hlt : lcpLen key.data.toList pre.data.toList < pre.size
    · refine with_fork hN.c0 hk hN.short hlt ?_
      intro m
      have hbm := below_drawn w m
      by_cases hke : lcpLen key.data.toList pre.data.toList = key.size
      · rw [hke]
        have hK : key.data.toList.take (lcpLen key.data.toList pre.data.toList) = key.data.toList := by rw [hke, List.take_of_length_le (by simp)]
        refine (forked_over (w := w.drewN m) (v := v) (y := pre[lcpLen key.data.toList pre.data.toList]) (hS.later hbm) (hT0.on hbm) hk hv (.later hbm hvc) hm ?_).mono ?_
        · intro e he
          obtain ⟨r, hr⟩ := hs.front he
          refine ⟨pre.data.toList.drop (lcpLen key.data.toList pre.data.toList + 1) ++ r, ?_⟩
          rw [← hr]
          conv => lhs; rw [p2, hK]
          rw [List.drop_eq_getElem_cons (by simpa using hlt)]
          simp; rfl
        · intro e w' h
          obtain ⟨t', h1, h2, h3⟩ := h.of_drewN
          exact ⟨t', h1, t', h1, h2, h3⟩
      · have h1 : lcpLen key.data.toList pre.data.toList < key.size := by omega
        have hp : ∀ e ∈ l, ∃ r, e.1 = key.data.toList.take (lcpLen key.data.toList pre.data.toList) ++ pre[lcpLen key.data.toList pre.data.toList] :: r := by
          intro e he
          obtain ⟨r, hr⟩ := hs.front he
          refine ⟨pre.data.toList.drop (lcpLen key.data.toList pre.data.toList + 1) ++ r, ?_⟩
          rw [← hr]
          conv => lhs; rw [p2]
          rw [List.drop_eq_getElem_cons (by simpa using hlt)]
          simp; rfl
        have hne : key[lcpLen key.data.toList pre.data.toList] ≠ pre[lcpLen key.data.toList pre.data.toList] :=
          p3 _ _ _ _ (List.drop_eq_getElem_cons (by simpa using h1)) (List.drop_eq_getElem_cons (by simpa using hlt))
        rcases Nat.lt_trichotomy key[lcpLen key.data.toList pre.data.toList].toNat pre[lcpLen key.data.toList pre.data.toList].toNat with h2 | h2 | h2
        · refine (forked_left (w := w.drewN m) (v := v) (hS.later hbm) (hT0.on hbm) (by omega) hk hv (.later hbm hvc) hm (cell_later hbm hN.c0) hN.short h1 hlt hp h2).mono ?_
          intro e w' h
          obtain ⟨t', h1, h2, h3⟩ := h.of_drewN
          exact ⟨t', h1, t', h1, h2, h3⟩
        · exact absurd (UInt8.toNat_inj.mp h2) hne
        · refine (forked_right (w := w.drewN m) (v := v) (hS.later hbm) (hT0.on hbm) (by omega) hk hv (.later hbm hvc) hm (cell_later hbm hN.c0) hN.short h1 hlt hp h2).mono ?_
          intro e w' h
          obtain ⟨t', h1, h2, h3⟩ := h.of_drewN
          exact ⟨t', h1, t', h1, h2, h3⟩
    · have hq : lcpLen key.data.toList pre.data.toList = pre.size := by omega
      have hpd : pre.data.toList.drop (lcpLen key.data.toList pre.data.toList) = [] := List.drop_eq_nil_of_le (by rw [hq, Lib.size_eq]; exact Nat.le_refl _)
      have hP : pre.data.toList = key.data.toList.take pre.size := by rw [hpd, List.append_nil, hq] at p2; exact p2
      by_cases hke : key.size = pre.size
      · have hK : key.data.toList = pre.data.toList := by rw [hP, ← hke, List.take_of_length_le (by simp)]
        refine with_own hN.c0 hN.c2 hk hN.short hq hke ?_
        intro m
        have hbm := below_drawn w m
        refine (joined_rep (S := S) (n := n) (hS.later hbm) hN.short (ownAt_some hv (.later hbm hvc)) (hR.later hbm) hl (fun i c g h1 h2 => (hC i c g h1 h2).on hbm) (hs.put v) (by rw [← hK]; omega)).mono ?_
        rintro e w' ⟨t', rfl, h1, h2⟩
        rw [← hK] at h1
        exact ans_of hbm ⟨t', rfl, h1.fuel (by omega), h2⟩
      · have hkl : pre.size < key.size := by omega
        have hkey := key_parts key pre.size hkl
        rw [← hP] at hkey
        have hB : BytesAt w pre.size cs xs := by rw [Lib.size_eq]; exact repBytes hl hC hs.grps
        obtain ⟨s1, _, _⟩ := posOf_spec key[pre.size] xs hs.grps.pw
        have hpl : posOf key[pre.size] xs ≤ cs.length := by rw [hl, ← hs.grps.len]; exact s1
        by_cases hf : xs[posOf key[pre.size] xs]? = some key[pre.size]
        · obtain ⟨g, hg⟩ := hs.grps.grp hf
          have hpos : posOf key[pre.size] xs < cs.length := by rw [hl]; exact (List.getElem?_eq_some_iff.mp hg).1
          have hci : cs[posOf key[pre.size] xs]? = some cs[posOf key[pre.size] xs] := List.getElem?_eq_getElem hpos
          have hgl : g.length + 1 ≤ 1000000 := by
            have h1 := hs.eq
            have h2 : g.length ≤ gs.flatten.length := (List.sublist_flatten_of_mem (List.mem_of_getElem? hg)).length_le
            have h3 : l.length = (ownL pre.data.toList ov).length + gs.flatten.length := by rw [h1, List.length_append]
            omega
          rcases hR with ⟨rfl, _⟩ | ⟨k, o, cap, h1, rfl, h3, h4, h5, h6⟩
          · simp at hpos
          refine with_found (pos := posOf key[pre.size] xs) (c := cs[posOf key[pre.size] xs]) (L1 := fun w' t1 => RepN S (n + 1) w' t1 (ins key.data.toList v g)) (L2 := fun w' t1 bv' => RepN S (n + 1) w' t1 (ins key.data.toList v g) ∧ RowAt S w' bv' (cs.take (posOf key[pre.size] xs) ++ t1 :: cs.drop (posOf key[pre.size] xs + 1)))
            hN.c0 hN.c1 hN.c2 (h5 _ _ hci) hpos hcs hk hN.short hq hkl ?_ ?_ ?_ ?_
          · intro w1 hb1
            refine (place_rep (S := S) (n := n) (cell_later hb1 hN.c0) (cell_later hb1 hN.c2) (.inr ⟨k, o, cap, h1, rfl, h3, h4, h5.later hb1, h6⟩) (hB.later hb1) hs.grps.pw (by omega) hkl).mono ?_
            rintro e w' ⟨rfl, h⟩
            exact ⟨by rw [hf]; simp, hb1.trans (h.mono hb1.size)⟩
          · intro w1 hb1
            refine (with_any n (hS.later hb1) ((hC _ _ _ hci hg).on hb1) hk hv (.later hb1 hvc) hgl).mono ?_
            rintro e w' ⟨t', rfl, h7, h8⟩
            exact ⟨t', rfl, h7, hb1.trans (h8.mono hb1.size)⟩
          · intro w1 t1 h7 hb1
            refine (replaced_row (hS.later hb1) (h5.later hb1) h3 h4 hpos hcs).mono ?_
            rintro e w' ⟨bv', rfl, h8, h9⟩
            exact ⟨bv', rfl, ⟨h7.on h9, h8⟩, hb1.trans (h9.mono hb1.size)⟩
          · rintro w1 t1 bv' ⟨h7, h8⟩ hb1
            refine (joined_rep (S := S) (n := n + 1) (hS.later hb1) hN.short (hO.later hb1) h8 ?_ (kids_rep hl hpos (fun i c g h1 h2 => ((hC i c g h1 h2).on hb1).fuel (by omega)) h7) (hs.into hkey hf hg v) (by omega)).mono ?_
            · simp; omega
            intro e w' h
            exact ans_of hb1 h
        · refine with_new (pos := posOf key[pre.size] xs) (L1 := fun w' t1 => RepN S 1 w' t1 [(key.data.toList, v)]) (L2 := fun w' t1 bv' => RepN S 1 w' t1 [(key.data.toList, v)] ∧ RowAt S w' bv' (cs.take (posOf key[pre.size] xs) ++ t1 :: cs.drop (posOf key[pre.size] xs)))
            hN.c0 hN.c1 hN.c2 hk hN.short hq hkl ?_ ?_ ?_ ?_
          · intro w1 hb1
            refine (place_rep (S := S) (n := n) (cell_later hb1 hN.c0) (cell_later hb1 hN.c2) (hR.later hb1) (hB.later hb1) hs.grps.pw (by omega) hkl).mono ?_
            rintro e w' ⟨rfl, h⟩
            exact ⟨by rw [decide_eq_false hf], hb1.trans (h.mono hb1.size)⟩
          · intro w1 hb1
            refine (joined_rep (S := S) (n := 0) (p := key) (cs := []) (hS.later hb1) hk (ownAt_some hv (.later hb1 hvc)) (.inl ⟨rfl, rfl⟩) rfl (fun i c g h => by simp at h) (shaped_leaf key.data.toList v) (by simp)).mono ?_
            rintro e w' ⟨t', rfl, h7, h8⟩
            exact ⟨t', rfl, h7, hb1.trans (h8.mono hb1.size)⟩
          · intro w1 t1 h7 hb1
            refine (inserted_row (hS.later hb1) (hR.later hb1) hpl hcs).mono ?_
            rintro e w' ⟨bv', rfl, h8, h9⟩
            exact ⟨bv', rfl, ⟨h7.on h9, h8⟩, hb1.trans (h9.mono hb1.size)⟩
          · rintro w1 t1 bv' ⟨h7, h8⟩ hb1
            refine (joined_rep (S := S) (n := n + 1) (hS.later hb1) hN.short (hO.later hb1) h8 ?_ (kids_put hl hpl (fun i c g h1 h2 => ((hC i c g h1 h2).on hb1).fuel (by omega)) (h7.fuel (by omega))) (hs.beside hkey hf v) (by omega)).mono ?_
            · simp; omega
            intro e w' h
            exact ans_of hb1 h

end Go.Proofs.Ytcgjppacnhmjlaa
end
