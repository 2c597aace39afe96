/- Own texts: PWith, PWithB. -/
import Derived.Test.YtcgjppacnhmjlaaFmAR

section
set_option linter.unusedVariables false
set_option linter.unusedSimpArgs false
set_option linter.unusedSectionVars false
set_option linter.unusedVariables false
set_option linter.unusedSimpArgs false
namespace Go.Proofs.Ytcgjppacnhmjlaa
open Go.RowKit
attribute [local go_sem ↓] Go.wp_at_zero Go.wp_at_succ

/-- All new blocks are within S. -/
def Open (S : Nat → Prop) (w : World) : Prop := ∀ k, w.heap.size ≤ k → S k
theorem Open.later {S : Nat → Prop} {w w' : World} (h : Open S w) (hb : Below w.heap.size w w') : Open S w' := fun k hk => h k (Nat.le_trans hb.size hk)

theorem below_alloc (w : World) (ob : Obj) : Below w.heap.size w (w.alloc ob) := (Below.refl _ _).alloc (Nat.le_refl _) _
theorem PlAt.later {w w' : World} {b : Nat} {v : Plc} (hb : Below w.heap.size w w') (h : PlAt w b v) : PlAt w' b v := ⟨cell_later hb h.1, cell_later hb h.2.1, cell_later hb h.2.2⟩
theorem OwnAt.later {S : Nat → Prop} {w w' : World} {vp : Option Addr} {ov : Option Plc} (h : OwnAt S w vp ov) (hb : Below w.heap.size w w') : OwnAt S w' vp ov := by
  cases ov with
  | none => exact h
  | some v => obtain ⟨vb, h1, h2, h3⟩ := h; exact ⟨vb, h1, h2, .later hb h3⟩
theorem RowAt.later {S : Nat → Prop} {w w' : World} {bv : Value} {cs : List Nat} (h : RowAt S w bv cs) (hb : Below w.heap.size w w') : RowAt S w' bv cs := by
  rcases h with h | ⟨k, o, cap, h1, h2, h3, h4, h5, h6⟩
  · exact .inl h
  · exact .inr ⟨k, o, cap, h1, h2, h3, h4, h5.later hb, h6⟩
theorem RepN.on {S : Nat → Prop} {w w' : World} {n b : Nat} {l : List KV} (h : RepN S n w b l) (hb : Below w.heap.size w w') : RepN S n w' b l := h.later hb (fun _ h _ => h) (Nat.le_refl _)

theorem repNode {S : Nat → Prop} {w : World} {n : Nat} {p : ByteArray} {vp : Option Addr} {bv : Value} {ov : Option Plc} {cs : List Nat} {xs : List UInt8} {gs : List (List KV)} {l : List KV} (hS : Open S w) (hp : p.size ≤ 64) (hO : OwnAt S w vp ov) (hR : RowAt S w bv cs) (hl : cs.length = gs.length)
    (hC : ∀ (i c : Nat) g, cs[i]? = some c → gs[i]? = some g → RepN S n w c g) (hs : Shaped p.data.toList ov xs gs l) : RepN S (n + 1) (w.alloc (node p (.pointer vp) bv l.length)) w.heap.size l := by
  have hb := below_alloc w (node p (.pointer vp) bv l.length)
  refine ⟨p, vp, bv, ov, cs, xs, gs, ⟨hS _ (Nat.le_refl _), heap_alloc_new w _, hp⟩, hO.later hb, hR.later hb, hl, fun i c g h1 h2 => (hC i c g h1 h2).on hb, hs⟩
theorem own_len {S : Nat → Prop} {w : World} {vp : Option Addr} {ov : Option Plc} (h : OwnAt S w vp ov) (p : List UInt8) : own01 vp = (ownL p ov).length := by
  cases ov with
  | none => rw [show vp = none from h]; rfl
  | some v => obtain ⟨vb, _, rfl, _⟩ := h; rfl

theorem joined_rep {S : Nat → Prop} {w : World} {n : Nat} {p : ByteArray} {vp : Option Addr} {bv : Value} {ov : Option Plc} {cs : List Nat} {xs : List UInt8} {gs : List (List KV)} {l : List KV} (hS : Open S w) (hp : p.size ≤ 64) (hO : OwnAt S w vp ov) (hR : RowAt S w bv cs) (hl : cs.length = gs.length)
    (hC : ∀ (i c : Nat) g, cs[i]? = some c → gs[i]? = some g → RepN S n w c g) (hs : Shaped p.data.toList ov xs gs l) (hm : l.length ≤ 1000000) :
    Calls Try.prog 90 #[.string p, .pointer vp, bv] w fun e w' => ∃ t', e = .returned (.pointer (some ⟨t', 0, none⟩)) ∧ RepN S (n + 1) w' t' l ∧ Below w.heap.size w w' := by
  have hlen := hs.len
  have ho := own_len hO p.data.toList
  have hrep := repNode hS hp hO hR hl hC hs
  rcases hR with ⟨h1, rfl⟩ | ⟨k, o, cap, h1, rfl, h3, h4, h5, h6⟩
  · refine (joined_nil p vp w).mono ?_
    rintro e w' ⟨rfl, rfl⟩
    have hg : gs = [] := List.length_eq_zero_iff.mp (by rw [← hl, h1]; rfl)
    have : own01 vp = l.length := by rw [hlen, ho, hg]; rfl
    rw [this]
    exact ⟨_, rfl, hrep, below_alloc _ _⟩
  · refine (joined_some p vp k o cap cs (gs.map List.length) w h5 (repSizes hl hC) ?_ (by omega)).mono ?_
    · have := pw_len hs.grps.pw; have := hs.grps.len; omega
    rintro e w' ⟨rfl, rfl⟩
    have : own01 vp + (gs.map List.length).sum = l.length := by rw [hlen, ho]
    rw [this]
    exact ⟨_, rfl, hrep, below_alloc _ _⟩

/-- What lcpLen says of two lists. -/
theorem lcp_parts (a b : List UInt8) : a = a.take (lcpLen a b) ++ a.drop (lcpLen a b) ∧ b = a.take (lcpLen a b) ++ b.drop (lcpLen a b) ∧ ∀ x y r q, a.drop (lcpLen a b) = x :: r → b.drop (lcpLen a b) = y :: q → x ≠ y := by
  induction a generalizing b with
  | nil => exact ⟨by simp [lcpLen], by simp [lcpLen], fun x y r q h => by simp [lcpLen] at h⟩
  | cons c a ih =>
    cases b with
    | nil => exact ⟨by simp [lcpLen], by simp [lcpLen], fun x y r q _ h => by simp [lcpLen] at h⟩
    | cons d b =>
      simp only [lcpLen]
      by_cases h : c = d
      · subst h
        obtain ⟨h1, h2, h3⟩ := ih b
        simp only [if_true, List.take_succ_cons, List.drop_succ_cons, List.cons_append]
        exact ⟨by rw [← h1], by rw [← h2], h3⟩
      · simp only [if_neg h, List.take_zero, List.drop_zero, List.nil_append]
        exact ⟨trivial, trivial, fun x y r q h1 h2 => by cases h1; cases h2; exact h⟩

theorem ownAt_some {S : Nat → Prop} {w : World} {vb : Nat} {v : Plc} (hv : S vb) (hvc : PlAt w vb v) : OwnAt S w (some ⟨vb, 0, none⟩) (some v) := ⟨vb, hv, rfl, hvc⟩
theorem row_one {S : Nat → Prop} {w : World} {k t : Nat} (hS : S k) (hc : w.cell? ⟨k, 0, none⟩ = some (ptr t)) : RowAt S w (.slice (some ⟨k, 0, none⟩) 1 1) [t] :=
  .inr ⟨k, 0, 1, hS, rfl, Nat.le_refl _, by decide, fun i c h => by
    cases i with
    | zero => simp at h; subst h; exact hc
    | succ i => simp at h, by simp⟩
theorem row_two {S : Nat → Prop} {w : World} {k t u : Nat} (hS : S k) (hc : w.cell? ⟨k, 0, none⟩ = some (ptr t)) (hd : w.cell? ⟨k, 1, none⟩ = some (ptr u)) : RowAt S w (.slice (some ⟨k, 0, none⟩) 2 2) [t, u] :=
  .inr ⟨k, 0, 2, hS, rfl, Nat.le_refl _, by decide, fun i c h => by
    cases i with
    | zero => simp at h; subst h; exact hc
    | succ i => cases i with
      | zero => simp at h; subst h; exact hd
      | succ i => simp at h, by simp⟩
theorem kid_one {S : Nat → Prop} {w : World} {n t : Nat} {l : List KV} (h : RepN S n w t l) : ∀ (i c : Nat) g, [t][i]? = some c → [l][i]? = some g → RepN S n w c g := by
  intro i c g h1 h2
  cases i with
  | zero => simp at h1 h2; subst h1; subst h2; exact h
  | succ i => simp at h1
theorem kid_two {S : Nat → Prop} {w : World} {n t u : Nat} {l m : List KV} (h : RepN S n w t l) (k : RepN S n w u m) : ∀ (i c : Nat) g, [t, u][i]? = some c → [l, m][i]? = some g → RepN S n w c g := by
  intro i c g h1 h2
  cases i with
  | zero => simp at h1 h2; subst h1; subst h2; exact h
  | succ i => cases i with
    | zero => simp at h1 h2; subst h1; subst h2; exact k
    | succ i => simp at h1
theorem len_ins_le {V : Type} (k : List UInt8) (v : V) (l : List (List UInt8 × V)) (hs : Srt l) : (ins k v l).length ≤ l.length + 1 := by
  unfold ins
  have : ∀ m : List (List UInt8 × V), (m.filter fun e => Op.bytesLess e.1 k).length + (m.filter fun e => Op.bytesLess k e.1).length ≤ m.length := by
    intro m
    induction m with
    | nil => simp
    | cons e r ih =>
      rw [List.filter_cons, List.filter_cons]
      by_cases h1 : Op.bytesLess e.1 k = true
      · have h2 : ¬ Op.bytesLess k e.1 = true := klt_asymm h1
        rw [if_pos h1, if_neg h2]; simp; omega
      · rw [if_neg h1]; split <;> simp <;> omega
  have := this l
  simp; omega

/-- A word for what With and its like answer. -/
def Answers (S : Nat → Prop) (n : Nat) (l : List KV) (w : World) (e : Ending) (w' : World) : Prop := ∃ t', e = .returned (.pointer (some ⟨t', 0, none⟩)) ∧ RepN S n w' t' l ∧ Below w.heap.size w w'

set_option maxRecDepth 100000 in
set_option maxHeartbeats 400000 in
theorem forked_over {S : Nat → Prop} {w : World} {n t vb : Nat} {l : List KV} {key : ByteArray} {v : Plc} {y : UInt8} (hS : Open S w) (hT : RepN S n w t l) (hk : key.size ≤ 64) (hv : S vb) (hvc : PlAt w vb v) (hm : l.length + 1 ≤ 1000000)
    (hp : ∀ e ∈ l, ∃ r, e.1 = key.data.toList ++ y :: r) :
    Calls Try.prog 103 #[.pointer (some ⟨t, 0, none⟩), .string key, .pointer (some ⟨vb, 0, none⟩), .int .i64 key.size] w (Answers S (n + 1) (ins key.data.toList v l) w) := by
  have hs := shaped_over (v := v) hT.srt hT.ne hp
  have hj := fun (w1 : World) (hw : w1 = w.alloc (.cells #[ptr t] 93)) => joined_rep (S := S) (w := w1) (n := n) (p := key) (hS.later (hw ▸ below_alloc _ _)) hk (ownAt_some hv (PlAt.later (hw ▸ below_alloc _ _) hvc)) (row_one (k := w.heap.size) (t := t) (hS _ (Nat.le_refl _)) (by rw [hw]; simp)) rfl (kid_one (hT.on (hw ▸ below_alloc _ _))) hs (by
        have := len_ins_le key.data.toList v l hT.srt; omega)
  have HJ : Hid (∀ w1 : World, w1 = w.alloc (.cells #[ptr t] 93) → Calls Try.prog 90 #[.string key, .pointer (some ⟨vb, 0, none⟩), .slice (some ⟨w.heap.size, 0, none⟩) 1 1] w1 fun e w' => ∃ t', e = .returned (.pointer (some ⟨t', 0, none⟩)) ∧ RepN S (n + 1) w' t' (ins key.data.toList v l) ∧ Below w1.heap.size w1 w') := hj
  clear hj hs hp hvc hT
  go_enter Try.func103, Try.ntmps103
  go_wp2_with (go_at_call 90; refine (HJ.out _ rfl).mono ?_; rintro e w' ⟨t', rfl, hrep, hbel⟩)
  go_ret
  exact ⟨t', rfl, hrep, (below_alloc w _).trans (hbel.mono (below_alloc w _).size)⟩

theorem key_parts (key : ByteArray) (i : Nat) (h : i < key.size) : key.data.toList = key.data.toList.take i ++ key[i] :: key.data.toList.drop (i + 1) := by
  conv => lhs; rw [← List.take_append_drop i key.data.toList]
  congr 1
  rw [List.drop_eq_getElem_cons (by simpa using h)]; rfl
theorem key_take (key : ByteArray) (i : Nat) : (key.extract 0 i).data.toList = key.data.toList.take i := by
  rw [Lib.extract_data]; simp

set_option maxRecDepth 100000 in
set_option maxHeartbeats 400000 in
theorem forked_left {S : Nat → Prop} {w : World} {n t vb same : Nat} {l : List KV} {key pre : ByteArray} {v : Plc} (hS : Open S w) (hT : RepN S n w t l) (h0 : 0 < n) (hk : key.size ≤ 64) (hv : S vb) (hvc : PlAt w vb v) (hm : l.length + 1 ≤ 1000000)
    (hpc : w.cell? ⟨t, 0, none⟩ = some (.string pre)) (hps : pre.size ≤ 64) (h1 : same < key.size) (h2 : same < pre.size) (hp : ∀ e ∈ l, ∃ r, e.1 = key.data.toList.take same ++ pre[same] :: r) (hlt : key[same] < pre[same]) :
    Calls Try.prog 103 #[.pointer (some ⟨t, 0, none⟩), .string key, .pointer (some ⟨vb, 0, none⟩), .int .i64 same] w (Answers S (n + 1) (ins key.data.toList v l) w) := by
  have hkey : key.data.toList = key.data.toList.take same ++ key[same] :: key.data.toList.drop (same + 1) := (key_parts key same h1)
  have hs := shaped_left (v := v) hT.srt hT.ne hkey hp hlt
  have hleaf := joined_rep (S := S) (w := w) (n := 0) (p := key) (cs := []) hS hk (ownAt_some hv hvc) (.inl ⟨rfl, rfl⟩) rfl (fun i c g h => by simp at h) (shaped_leaf key.data.toList v) (by simp)
  have hj : ∀ (w1 : World) (t1 : Nat), RepN S 1 w1 t1 [(key.data.toList, v)] → Below w.heap.size w w1 → ∀ m : Nat, Calls Try.prog 90 #[.string (key.extract 0 same), .pointer none, .slice (some ⟨w1.heap.size, 0, none⟩) 2 2] ((w1.alloc (.cells #[ptr t1, ptr t] 93)).drewN m) fun e w' => ∃ t', e = .returned (.pointer (some ⟨t', 0, none⟩)) ∧ RepN S (n + 1) w' t' (ins key.data.toList v l) ∧ Below w.heap.size w w' := by
    intro w1 t1 hr1 hb1 m
    have hb2 : Below w1.heap.size w1 ((w1.alloc (.cells #[ptr t1, ptr t] 93)).drewN m) := below_drewN'' (below_alloc w1 _) m
    have hb3 : Below w.heap.size w ((w1.alloc (.cells #[ptr t1, ptr t] 93)).drewN m) := hb1.trans (hb2.mono hb1.size)
    refine (joined_rep (S := S) (n := n) (p := key.extract 0 same) (hS.later hb3) (by simp; omega) (ov := none) rfl (row_two (k := w1.heap.size) (t := t1) (u := t) (hS _ hb1.size) (by simp) (by simp)) rfl (kid_two ((hr1.on hb2).fuel (by omega)) (hT.on hb3)) (by rw [key_take]; exact hs) (by have := len_ins_le key.data.toList v l hT.srt; omega)).mono ?_
    rintro e w' ⟨t', rfl, h3, h4⟩
    exact ⟨t', rfl, h3, hb3.trans (h4.mono hb3.size)⟩
  have HJ : Hid (∀ (w1 : World) (t1 : Nat), RepN S 1 w1 t1 [(key.data.toList, v)] → Below w.heap.size w w1 → ∀ m : Nat, Calls Try.prog 90 #[.string (key.extract 0 same), .pointer none, .slice (some ⟨w1.heap.size, 0, none⟩) 2 2] ((w1.alloc (.cells #[ptr t1, ptr t] 93)).drewN m) fun e w' => ∃ t', e = .returned (.pointer (some ⟨t', 0, none⟩)) ∧ RepN S (n + 1) w' t' (ins key.data.toList v l) ∧ Below w.heap.size w w') := hj
  have HF : Hid (Calls Try.prog 90 #[.string key, .pointer (some ⟨vb, 0, none⟩), .slice none 0 0] w fun e w' => ∃ t', e = .returned (.pointer (some ⟨t', 0, none⟩)) ∧ RepN S (0 + 1) w' t' [(key.data.toList, v)] ∧ Below w.heap.size w w') := hleaf
  have hltI : (key[same].toNat : Int) < (pre[same].toNat : Int) := by have : key[same].toNat < pre[same].toNat := hlt; omega
  clear hj hs hp hkey hvc hT hleaf hlt
  have hne : ¬ (same : Int) = (key.size : Int) := by omega
  have ha : (0 : Int) ≤ (same : Int) := Int.natCast_nonneg _
  have hb : (same : Int) < (key.size : Int) := by omega
  have hc : (same : Int) < (pre.size : Int) := by omega
  have HC : Hid (w.cell? ⟨t, 0, none⟩ = some (.string pre)) := hpc
  go_enter Try.func103, Try.ntmps103
  go_wp2_with (go_at_call 90; refine HF.out.mono ?_; rintro e w1 ⟨t1, rfl, hrep1, hbel1⟩)
  have hpc1 : w1.cell? ⟨t, 0, none⟩ = some (.string pre) := cell_later hbel1 HC.out
  go_quiet (fail)
  go_wp2_with (go_at_call 90; refine (HJ.out w1 t1 hrep1 hbel1 _).mono ?_; rintro e w' ⟨t', rfl, hrep, hbel⟩)
  go_ret
  exact ⟨t', rfl, hrep, hbel⟩

set_option maxRecDepth 100000 in
set_option maxHeartbeats 400000 in
theorem forked_right {S : Nat → Prop} {w : World} {n t vb same : Nat} {l : List KV} {key pre : ByteArray} {v : Plc} (hS : Open S w) (hT : RepN S n w t l) (h0 : 0 < n) (hk : key.size ≤ 64) (hv : S vb) (hvc : PlAt w vb v) (hm : l.length + 1 ≤ 1000000)
    (hpc : w.cell? ⟨t, 0, none⟩ = some (.string pre)) (hps : pre.size ≤ 64) (h1 : same < key.size) (h2 : same < pre.size) (hp : ∀ e ∈ l, ∃ r, e.1 = key.data.toList.take same ++ pre[same] :: r) (hlt : pre[same] < key[same]) :
    Calls Try.prog 103 #[.pointer (some ⟨t, 0, none⟩), .string key, .pointer (some ⟨vb, 0, none⟩), .int .i64 same] w (Answers S (n + 1) (ins key.data.toList v l) w) := by
  have hkey : key.data.toList = key.data.toList.take same ++ key[same] :: key.data.toList.drop (same + 1) := (key_parts key same h1)
  have hs := shaped_right (v := v) hT.srt hT.ne hkey hp hlt
  have hleaf := joined_rep (S := S) (w := w) (n := 0) (p := key) (cs := []) hS hk (ownAt_some hv hvc) (.inl ⟨rfl, rfl⟩) rfl (fun i c g h => by simp at h) (shaped_leaf key.data.toList v) (by simp)
  have hj : ∀ (w1 : World) (t1 : Nat), RepN S 1 w1 t1 [(key.data.toList, v)] → Below w.heap.size w w1 → ∀ m : Nat, Calls Try.prog 90 #[.string (key.extract 0 same), .pointer none, .slice (some ⟨w1.heap.size, 0, none⟩) 2 2] ((w1.alloc (.cells #[ptr t, ptr t1] 93)).drewN m) fun e w' => ∃ t', e = .returned (.pointer (some ⟨t', 0, none⟩)) ∧ RepN S (n + 1) w' t' (ins key.data.toList v l) ∧ Below w.heap.size w w' := by
    intro w1 t1 hr1 hb1 m
    have hb2 : Below w1.heap.size w1 ((w1.alloc (.cells #[ptr t, ptr t1] 93)).drewN m) := below_drewN'' (below_alloc w1 _) m
    have hb3 : Below w.heap.size w ((w1.alloc (.cells #[ptr t, ptr t1] 93)).drewN m) := hb1.trans (hb2.mono hb1.size)
    refine (joined_rep (S := S) (n := n) (p := key.extract 0 same) (hS.later hb3) (by simp; omega) (ov := none) rfl (row_two (k := w1.heap.size) (t := t) (u := t1) (hS _ hb1.size) (by simp) (by simp)) rfl (kid_two (hT.on hb3) ((hr1.on hb2).fuel (by omega))) (by rw [key_take]; exact hs) (by have := len_ins_le key.data.toList v l hT.srt; omega)).mono ?_
    rintro e w' ⟨t', rfl, h3, h4⟩
    exact ⟨t', rfl, h3, hb3.trans (h4.mono hb3.size)⟩
  have HJ : Hid (∀ (w1 : World) (t1 : Nat), RepN S 1 w1 t1 [(key.data.toList, v)] → Below w.heap.size w w1 → ∀ m : Nat, Calls Try.prog 90 #[.string (key.extract 0 same), .pointer none, .slice (some ⟨w1.heap.size, 0, none⟩) 2 2] ((w1.alloc (.cells #[ptr t, ptr t1] 93)).drewN m) fun e w' => ∃ t', e = .returned (.pointer (some ⟨t', 0, none⟩)) ∧ RepN S (n + 1) w' t' (ins key.data.toList v l) ∧ Below w.heap.size w w') := hj
  have HF : Hid (Calls Try.prog 90 #[.string key, .pointer (some ⟨vb, 0, none⟩), .slice none 0 0] w fun e w' => ∃ t', e = .returned (.pointer (some ⟨t', 0, none⟩)) ∧ RepN S (0 + 1) w' t' [(key.data.toList, v)] ∧ Below w.heap.size w w') := hleaf
  have hltI : (pre[same].toNat : Int) < (key[same].toNat : Int) := by have : pre[same].toNat < key[same].toNat := hlt; omega
  have hge : ¬ (key[same].toNat : Int) < (pre[same].toNat : Int) := by omega
  clear hltI
  clear hj hs hp hkey hvc hT hleaf hlt
  have hne : ¬ (same : Int) = (key.size : Int) := by omega
  have ha : (0 : Int) ≤ (same : Int) := Int.natCast_nonneg _
  have hb : (same : Int) < (key.size : Int) := by omega
  have hc : (same : Int) < (pre.size : Int) := by omega
  have HC : Hid (w.cell? ⟨t, 0, none⟩ = some (.string pre)) := hpc
  go_enter Try.func103, Try.ntmps103
  go_wp2_with (go_at_call 90; refine HF.out.mono ?_; rintro e w1 ⟨t1, rfl, hrep1, hbel1⟩)
  have hpc1 : w1.cell? ⟨t, 0, none⟩ = some (.string pre) := cell_later hbel1 HC.out
  go_quiet (fail)
  go_wp2_with (go_at_call 90; refine (HJ.out w1 t1 hrep1 hbel1 _).mono ?_; rintro e w' ⟨t', rfl, hrep, hbel⟩)
  go_ret
  exact ⟨t', rfl, hrep, hbel⟩

end Go.Proofs.Ytcgjppacnhmjlaa
end

section
set_option linter.unusedVariables false
set_option linter.unusedSimpArgs false
set_option linter.unusedSectionVars false
set_option linter.unusedVariables false
set_option linter.unusedSimpArgs false
namespace Go.Proofs.Ytcgjppacnhmjlaa
open Go.RowKit
attribute [local go_sem ↓] Go.wp_at_zero Go.wp_at_succ

set_option maxHeartbeats 1000000 in
theorem place_nil (b : Nat) (pre key : ByteArray) (w : World) (hp : w.cell? ⟨b, 0, none⟩ = some (.string pre)) (hv : w.cell? ⟨b, 2, none⟩ = some (.slice none 0 0)) (hks : key.size ≤ 9223372036854775807) (hm : pre.size < key.size) :
    Calls Try.prog 102 #[.pointer (some ⟨b, 0, none⟩), .string key] w fun e w' =>
      e = .returned (.tuple #[.int .i64 0, .bool false]) ∧ Below w.heap.size w w' := by
  have hs : ∀ n, Calls Try.prog 125 #[.slice none 0 0, .int .u8 key[pre.size].toNat, .func (.func 126) #[] #[.pointer (some ⟨w.heap.size, 0, none⟩)]] ((w.alloc (.cells #[.int .i64 pre.size] 3)).drewN n) fun e w' =>
      e = .returned (.tuple #[.int .i64 0, .bool false]) ∧ w' = (w.alloc (.cells #[.int .i64 pre.size] 3)).drewN n := fun n => search_nil _ _ _
  have HS : Hid (∀ n, Calls Try.prog 125 #[.slice none 0 0, .int .u8 key[pre.size].toNat, .func (.func 126) #[] #[.pointer (some ⟨w.heap.size, 0, none⟩)]] ((w.alloc (.cells #[.int .i64 pre.size] 3)).drewN n) fun e w' =>
      e = .returned (.tuple #[.int .i64 0, .bool false]) ∧ w' = (w.alloc (.cells #[.int .i64 pre.size] 3)).drewN n) := hs
  clear hs
  have hv' : ∀ ob, (w.alloc ob).cell? ⟨b, 2, none⟩ = some (.slice none 0 0) := fun ob => cell_later ((Below.refl _ _).alloc (Nat.le_refl _) _) hv
  go_enter Try.func102, Try.ntmps102
  go_wp2
  go_quiet ((go_at_call 125; exact Calls.quiet_of_same (HS.out _)))
  go_wp2
  go_ret2
  exact ⟨rfl, below_drewN'' (((Below.refl _ _).alloc (Nat.le_refl _) _)) _⟩

theorem place_rep {S : Nat → Prop} {w : World} {b n : Nat} {pre key : ByteArray} {bv : Value} {cs : List Nat} {xs : List UInt8} (hp : w.cell? ⟨b, 0, none⟩ = some (.string pre)) (hv : w.cell? ⟨b, 2, none⟩ = some bv) (hR : RowAt S w bv cs) (hx : BytesAt w pre.size cs xs) (hpw : xs.Pairwise (· < ·)) (hks : key.size ≤ 9223372036854775807) (hm : pre.size < key.size) :
    Calls Try.prog 102 #[.pointer (some ⟨b, 0, none⟩), .string key] w fun e w' =>
      e = .returned (.tuple #[.int .i64 (posOf key[pre.size] xs), .bool (decide (xs[posOf key[pre.size] xs]? = some key[pre.size]))]) ∧ Below w.heap.size w w' := by
  rcases hR with ⟨h1, rfl⟩ | ⟨k, o, cap, h1, rfl, h3, h4, h5, h6⟩
  · have hx0 : xs = [] := List.length_eq_zero_iff.mp (by rw [← hx.1, h1]; rfl)
    subst hx0
    refine (place_nil b pre key w hp hv hks hm).mono ?_
    rintro e w' ⟨rfl, h⟩
    exact ⟨rfl, h⟩
  · exact place_some b pre key k o cap cs xs w hp hv h5 hx (by rw [hx.1]; exact pw_len hpw) hpw hks hm

theorem Answers.of_drewN {S : Nat → Prop} {n : Nat} {l : List KV} {w : World} {m : Nat} {e : Ending} {w' : World} (h : Answers S n l (w.drewN m) e w') : Answers S n l w e w' := by
  obtain ⟨t', h1, h2, h3⟩ := h
  exact ⟨t', h1, h2, (below_drewN'' (Below.refl w.heap.size w) m).trans h3⟩

set_option maxHeartbeats 400000 in
theorem with_fork {w : World} {t vb : Nat} {key pre : ByteArray} {Post : Ending → World → Prop} (hpc : w.cell? ⟨t, 0, none⟩ = some (.string pre)) (hk : key.size ≤ 64) (hps : pre.size ≤ 64) (hlt : lcpLen key.data.toList pre.data.toList < pre.size)
    (hF : ∀ m, Calls Try.prog 103 #[.pointer (some ⟨t, 0, none⟩), .string key, .pointer (some ⟨vb, 0, none⟩), .int .i64 (lcpLen key.data.toList pre.data.toList)] (w.drewN m) fun e w' => ∃ t', e = .returned (.pointer (some ⟨t', 0, none⟩)) ∧ Post e w') :
    Calls Try.prog 84 #[.pointer (some ⟨t, 0, none⟩), .string key, .pointer (some ⟨vb, 0, none⟩)] w Post := by
  have hsl := fun w1 => sharedLength_any key pre w1 (by unfold maxLen; omega) (by unfold maxLen; omega)
  generalize lcpLen key.data.toList pre.data.toList = q at *
  have HS : Hid (∀ w1, Calls Try.prog 78 #[.string key, .string pre] w1 fun e w' => e = .returned (.int .i64 q) ∧ ∃ n, w' = w1.drewN n) := hsl
  have HF : Hid (∀ m, Calls Try.prog 103 #[.pointer (some ⟨t, 0, none⟩), .string key, .pointer (some ⟨vb, 0, none⟩), .int .i64 q] (w.drewN m) fun e w' => ∃ t', e = .returned (.pointer (some ⟨t', 0, none⟩)) ∧ Post e w') := hF
  clear hsl hF
  go_enter Try.func84, Try.ntmps84
  go_wp2_with (first | (go_at_call 78; refine (HS.out _).mono ?_; rintro e w' ⟨rfl, m, rfl⟩) | (go_at_call 103; refine (HF.out _).mono ?_; rintro e w' ⟨t', rfl, hpost⟩))
  exact hpost


set_option maxRecDepth 100000 in
set_option maxHeartbeats 400000 in
theorem with_own {w : World} {t vb : Nat} {key pre : ByteArray} {bv : Value} {Post : Ending → World → Prop} (hpc : w.cell? ⟨t, 0, none⟩ = some (.string pre)) (hbc : w.cell? ⟨t, 2, none⟩ = some bv) (hk : key.size ≤ 64) (hps : pre.size ≤ 64) (hlt : lcpLen key.data.toList pre.data.toList = pre.size) (hkp : key.size = pre.size)
    (hF : ∀ m, Calls Try.prog 90 #[.string pre, .pointer (some ⟨vb, 0, none⟩), bv] (w.drewN m) fun e w' => ∃ t', e = .returned (.pointer (some ⟨t', 0, none⟩)) ∧ Below w.heap.size w w' ∧ Post e w') :
    Calls Try.prog 84 #[.pointer (some ⟨t, 0, none⟩), .string key, .pointer (some ⟨vb, 0, none⟩)] w Post := by
  have hsl := fun w1 => sharedLength_any key pre w1 (by unfold maxLen; omega) (by unfold maxLen; omega)
  rw [hlt, ← hkp] at hsl
  have HS : Hid (∀ w1, Calls Try.prog 78 #[.string key, .string pre] w1 fun e w' => e = .returned (.int .i64 key.size) ∧ ∃ n, w' = w1.drewN n) := hsl
  have HF : Hid (∀ m, Calls Try.prog 90 #[.string pre, .pointer (some ⟨vb, 0, none⟩), bv] (w.drewN m) fun e w' => ∃ t', e = .returned (.pointer (some ⟨t', 0, none⟩)) ∧ Below w.heap.size w w' ∧ Post e w') := hF
  have hnl : ¬ (key.size : Int) < (pre.size : Int) := by omega
  have HC : Hid (w.cell? ⟨t, 0, none⟩ = some (.string pre) ∧ w.cell? ⟨t, 2, none⟩ = some bv) := ⟨hpc, hbc⟩
  clear hsl hF hlt hkp
  go_enter Try.func84, Try.ntmps84
  go_wp2_with (first | (go_at_call 78; refine (HS.out _).mono ?_; rintro e w' ⟨rfl, m, rfl⟩))
  go_region_held3 (fun w' => w'.cell? ⟨t, 0, none⟩ = some (.string pre) ∧ w'.cell? ⟨t, 2, none⟩ = some bv) (first | exact ⟨cell_later hbel HC.out.1, cell_later hbel HC.out.2⟩ | go_keep) ((go_at_call 90; refine (HF.out _).mono ?_; rintro e w' ⟨t', rfl, hbel, hpost⟩))
  go_wp2
  exact hpost

end Go.Proofs.Ytcgjppacnhmjlaa
end
