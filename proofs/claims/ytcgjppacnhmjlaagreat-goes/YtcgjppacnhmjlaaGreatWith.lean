/- With: the tree in which a key has a value. -/
import Derived.Test.YtcgjppacnhmjlaaGreatRep
set_option linter.unusedVariables false
set_option linter.unusedSimpArgs false
namespace Go.Proofs.YtcgjppacnhmjlaaGreat
open Go.RowKit
attribute [local go_sem ↓] Go.wp_at_zero Go.wp_at_succ

/-- All new blocks are within S. -/
def Open (S : Nat → Prop) (w : World) : Prop := ∀ k, w.heap.size ≤ k → S k
theorem Open.later {S : Nat → Prop} {w w' : World} (h : Open S w) (hb : Below w.heap.size w w') : Open S w' := fun k hk => h k (Nat.le_trans hb.size hk)

theorem below_alloc (w : World) (ob : Obj) : Below w.heap.size w (w.alloc ob) := (Below.refl _ _).alloc (Nat.le_refl _) _
theorem OwnAt.later {S : Nat → Prop} {w w' : World} {vp : Option Addr} {ov : Option Int} (h : OwnAt S w vp ov) (hb : Below w.heap.size w w') : OwnAt S w' vp ov := by
  cases ov with
  | none => exact h
  | some v => obtain ⟨vb, h1, h2, h3⟩ := h; exact ⟨vb, h1, h2, cell_later hb h3⟩
theorem RowAt.later {S : Nat → Prop} {w w' : World} {bv : Value} {cs : List Nat} (h : RowAt S w bv cs) (hb : Below w.heap.size w w') : RowAt S w' bv cs := by
  rcases h with h | ⟨k, o, cap, h1, h2, h3, h4, h5, h6⟩
  · exact .inl h
  · exact .inr ⟨k, o, cap, h1, h2, h3, h4, h5.later hb, h6⟩
theorem RepN.on {S : Nat → Prop} {w w' : World} {n b : Nat} {l : List KV} (h : RepN S n w b l) (hb : Below w.heap.size w w') : RepN S n w' b l := h.later hb (fun _ h _ => h) (Nat.le_refl _)

theorem repNode {S : Nat → Prop} {w : World} {n : Nat} {p : ByteArray} {vp : Option Addr} {bv : Value} {ov : Option Int} {cs : List Nat} {xs : List UInt8} {gs : List (List KV)} {l : List KV} (hS : Open S w) (hp : p.size ≤ 64) (hO : OwnAt S w vp ov) (hR : RowAt S w bv cs) (hl : cs.length = gs.length)
    (hC : ∀ (i c : Nat) g, cs[i]? = some c → gs[i]? = some g → RepN S n w c g) (hs : Shaped p.data.toList ov xs gs l) : RepN S (n + 1) (w.alloc (node p (.pointer vp) bv l.length)) w.heap.size l := by
  have hb := below_alloc w (node p (.pointer vp) bv l.length)
  refine ⟨p, vp, bv, ov, cs, xs, gs, ⟨hS _ (Nat.le_refl _), heap_alloc_new w _, hp⟩, hO.later hb, hR.later hb, hl, fun i c g h1 h2 => (hC i c g h1 h2).on hb, hs⟩
theorem own_len {S : Nat → Prop} {w : World} {vp : Option Addr} {ov : Option Int} (h : OwnAt S w vp ov) (p : List UInt8) : own01 vp = (ownL p ov).length := by
  cases ov with
  | none => rw [show vp = none from h]; rfl
  | some v => obtain ⟨vb, _, rfl, _⟩ := h; rfl

theorem joined_rep {S : Nat → Prop} {w : World} {n : Nat} {p : ByteArray} {vp : Option Addr} {bv : Value} {ov : Option Int} {cs : List Nat} {xs : List UInt8} {gs : List (List KV)} {l : List KV} (hS : Open S w) (hp : p.size ≤ 64) (hO : OwnAt S w vp ov) (hR : RowAt S w bv cs) (hl : cs.length = gs.length)
    (hC : ∀ (i c : Nat) g, cs[i]? = some c → gs[i]? = some g → RepN S n w c g) (hs : Shaped p.data.toList ov xs gs l) (hm : l.length ≤ 1000000) :
    Calls Tryz.prog 75 #[.string p, .pointer vp, bv] w fun e w' => ∃ t', e = .returned (.pointer (some ⟨t', 0, none⟩)) ∧ RepN S (n + 1) w' t' l ∧ Below w.heap.size w w' := by
  have hlen := hs.len
  have ho := own_len hO p.data.toList
  have hrep := repNode hS hp hO hR hl hC hs
  rcases hR with ⟨h1, rfl⟩ | ⟨k, o, cap, h1, rfl, h3, h4, h5, h6⟩
  · refine (joined_nil p vp w).mono ?_
    rintro e w' ⟨rfl, rfl⟩
    have hg : gs = [] := List.length_eq_zero_iff.mp (by rw [← hl, h1]; rfl)
    have : own01 vp = l.length := by rw [hlen, ho, hg]; rfl
    rw [this]
    exact ⟨_, rfl, hrep, below_alloc _ _⟩
  · refine (joined_some p vp k o cap cs (gs.map List.length) w h5 (repSizes hl hC) ?_ (by omega)).mono ?_
    · have := pw_len hs.grps.pw; have := hs.grps.len; omega
    rintro e w' ⟨rfl, rfl⟩
    have : own01 vp + (gs.map List.length).sum = l.length := by rw [hlen, ho]
    rw [this]
    exact ⟨_, rfl, hrep, below_alloc _ _⟩

/-- What lcpLen says of two lists. -/
theorem lcp_parts (a b : List UInt8) : a = a.take (lcpLen a b) ++ a.drop (lcpLen a b) ∧ b = a.take (lcpLen a b) ++ b.drop (lcpLen a b) ∧ ∀ x y r q, a.drop (lcpLen a b) = x :: r → b.drop (lcpLen a b) = y :: q → x ≠ y := by
  induction a generalizing b with
  | nil => exact ⟨by simp [lcpLen], by simp [lcpLen], fun x y r q h => by simp [lcpLen] at h⟩
  | cons c a ih =>
    cases b with
    | nil => exact ⟨by simp [lcpLen], by simp [lcpLen], fun x y r q _ h => by simp [lcpLen] at h⟩
    | cons d b =>
      simp only [lcpLen]
      by_cases h : c = d
      · subst h
        obtain ⟨h1, h2, h3⟩ := ih b
        simp only [if_true, List.take_succ_cons, List.drop_succ_cons, List.cons_append]
        exact ⟨by rw [← h1], by rw [← h2], h3⟩
      · simp only [if_neg h, List.take_zero, List.drop_zero, List.nil_append]
        exact ⟨trivial, trivial, fun x y r q h1 h2 => by cases h1; cases h2; exact h⟩

theorem ownAt_some {S : Nat → Prop} {w : World} {vb : Nat} {v : Int} (hv : S vb) (hvc : w.cell? ⟨vb, 0, none⟩ = some (.int .i64 v)) : OwnAt S w (some ⟨vb, 0, none⟩) (some v) := ⟨vb, hv, rfl, hvc⟩
theorem row_one {S : Nat → Prop} {w : World} {k t : Nat} (hS : S k) (hc : w.cell? ⟨k, 0, none⟩ = some (ptr t)) : RowAt S w (.slice (some ⟨k, 0, none⟩) 1 1) [t] :=
  .inr ⟨k, 0, 1, hS, rfl, Nat.le_refl _, by decide, fun i c h => by
    cases i with
    | zero => simp at h; subst h; exact hc
    | succ i => simp at h, by simp⟩
theorem row_two {S : Nat → Prop} {w : World} {k t u : Nat} (hS : S k) (hc : w.cell? ⟨k, 0, none⟩ = some (ptr t)) (hd : w.cell? ⟨k, 1, none⟩ = some (ptr u)) : RowAt S w (.slice (some ⟨k, 0, none⟩) 2 2) [t, u] :=
  .inr ⟨k, 0, 2, hS, rfl, Nat.le_refl _, by decide, fun i c h => by
    cases i with
    | zero => simp at h; subst h; exact hc
    | succ i => cases i with
      | zero => simp at h; subst h; exact hd
      | succ i => simp at h, by simp⟩
theorem kid_one {S : Nat → Prop} {w : World} {n t : Nat} {l : List KV} (h : RepN S n w t l) : ∀ (i c : Nat) g, [t][i]? = some c → [l][i]? = some g → RepN S n w c g := by
  intro i c g h1 h2
  cases i with
  | zero => simp at h1 h2; subst h1; subst h2; exact h
  | succ i => simp at h1
theorem kid_two {S : Nat → Prop} {w : World} {n t u : Nat} {l m : List KV} (h : RepN S n w t l) (k : RepN S n w u m) : ∀ (i c : Nat) g, [t, u][i]? = some c → [l, m][i]? = some g → RepN S n w c g := by
  intro i c g h1 h2
  cases i with
  | zero => simp at h1 h2; subst h1; subst h2; exact h
  | succ i => cases i with
    | zero => simp at h1 h2; subst h1; subst h2; exact k
    | succ i => simp at h1
theorem len_ins_le {V : Type} (k : List UInt8) (v : V) (l : List (List UInt8 × V)) (hs : Srt l) : (ins k v l).length ≤ l.length + 1 := by
  unfold ins
  have : ∀ m : List (List UInt8 × V), (m.filter fun e => Op.bytesLess e.1 k).length + (m.filter fun e => Op.bytesLess k e.1).length ≤ m.length := by
    intro m
    induction m with
    | nil => simp
    | cons e r ih =>
      rw [List.filter_cons, List.filter_cons]
      by_cases h1 : Op.bytesLess e.1 k = true
      · have h2 : ¬ Op.bytesLess k e.1 = true := klt_asymm h1
        rw [if_pos h1, if_neg h2]; simp; omega
      · rw [if_neg h1]; split <;> simp <;> omega
  have := this l
  simp; omega

/-- A word for what With and its like answer. -/
def Answers (S : Nat → Prop) (n : Nat) (l : List KV) (w : World) (e : Ending) (w' : World) : Prop := ∃ t', e = .returned (.pointer (some ⟨t', 0, none⟩)) ∧ RepN S n w' t' l ∧ Below w.heap.size w w'

set_option maxRecDepth 100000 in
set_option maxHeartbeats 400000 in
theorem forked_over {S : Nat → Prop} {w : World} {n t vb : Nat} {l : List KV} {key : ByteArray} {v : Int} {y : UInt8} (hS : Open S w) (hT : RepN S n w t l) (hk : key.size ≤ 64) (hv : S vb) (hvc : w.cell? ⟨vb, 0, none⟩ = some (.int .i64 v)) (hm : l.length + 1 ≤ 1000000)
    (hp : ∀ e ∈ l, ∃ r, e.1 = key.data.toList ++ y :: r) :
    Calls Tryz.prog 77 #[.pointer (some ⟨t, 0, none⟩), .string key, .pointer (some ⟨vb, 0, none⟩), .int .i64 key.size] w (Answers S (n + 1) (ins key.data.toList v l) w) := by
  have hs := shaped_over (v := v) hT.srt hT.ne hp
  have hj := fun (w1 : World) (hw : w1 = w.alloc (.cells #[ptr t] 56)) => joined_rep (S := S) (w := w1) (n := n) (p := key) (hS.later (hw ▸ below_alloc _ _)) hk (ownAt_some hv (cell_later (hw ▸ below_alloc _ _) hvc)) (row_one (k := w.heap.size) (t := t) (hS _ (Nat.le_refl _)) (by rw [hw]; simp)) rfl (kid_one (hT.on (hw ▸ below_alloc _ _))) hs (by
        have := len_ins_le key.data.toList v l hT.srt; omega)
  have HJ : Hid (∀ w1 : World, w1 = w.alloc (.cells #[ptr t] 56) → Calls Tryz.prog 75 #[.string key, .pointer (some ⟨vb, 0, none⟩), .slice (some ⟨w.heap.size, 0, none⟩) 1 1] w1 fun e w' => ∃ t', e = .returned (.pointer (some ⟨t', 0, none⟩)) ∧ RepN S (n + 1) w' t' (ins key.data.toList v l) ∧ Below w1.heap.size w1 w') := hj
  clear hj hs hp hvc hT
  go_enter Tryz.func77, Tryz.ntmps77
  go_wp2_with (go_at_call 75; refine (HJ.out _ rfl).mono ?_; rintro e w' ⟨t', rfl, hrep, hbel⟩)
  go_ret
  exact ⟨t', rfl, hrep, (below_alloc w _).trans (hbel.mono (below_alloc w _).size)⟩

theorem key_parts (key : ByteArray) (i : Nat) (h : i < key.size) : key.data.toList = key.data.toList.take i ++ key[i] :: key.data.toList.drop (i + 1) := by
  conv => lhs; rw [← List.take_append_drop i key.data.toList]
  congr 1
  rw [List.drop_eq_getElem_cons (by simpa using h)]; rfl
theorem key_take (key : ByteArray) (i : Nat) : (key.extract 0 i).data.toList = key.data.toList.take i := by
  rw [Lib.extract_data]; simp

set_option maxRecDepth 100000 in
set_option maxHeartbeats 400000 in
theorem forked_left {S : Nat → Prop} {w : World} {n t vb same : Nat} {l : List KV} {key pre : ByteArray} {v : Int} (hS : Open S w) (hT : RepN S n w t l) (h0 : 0 < n) (hk : key.size ≤ 64) (hv : S vb) (hvc : w.cell? ⟨vb, 0, none⟩ = some (.int .i64 v)) (hm : l.length + 1 ≤ 1000000)
    (hpc : w.cell? ⟨t, 0, none⟩ = some (.string pre)) (hps : pre.size ≤ 64) (h1 : same < key.size) (h2 : same < pre.size) (hp : ∀ e ∈ l, ∃ r, e.1 = key.data.toList.take same ++ pre[same] :: r) (hlt : key[same] < pre[same]) :
    Calls Tryz.prog 77 #[.pointer (some ⟨t, 0, none⟩), .string key, .pointer (some ⟨vb, 0, none⟩), .int .i64 same] w (Answers S (n + 1) (ins key.data.toList v l) w) := by
  have hkey : key.data.toList = key.data.toList.take same ++ key[same] :: key.data.toList.drop (same + 1) := (key_parts key same h1)
  have hs := shaped_left (v := v) hT.srt hT.ne hkey hp hlt
  have hleaf := joined_rep (S := S) (w := w) (n := 0) (p := key) (cs := []) hS hk (ownAt_some hv hvc) (.inl ⟨rfl, rfl⟩) rfl (fun i c g h => by simp at h) (shaped_leaf key.data.toList v) (by simp)
  have hj : ∀ (w1 : World) (t1 : Nat), RepN S 1 w1 t1 [(key.data.toList, v)] → Below w.heap.size w w1 → ∀ m : Nat, Calls Tryz.prog 75 #[.string (key.extract 0 same), .pointer none, .slice (some ⟨w1.heap.size, 0, none⟩) 2 2] ((w1.alloc (.cells #[ptr t1, ptr t] 56)).drewN m) fun e w' => ∃ t', e = .returned (.pointer (some ⟨t', 0, none⟩)) ∧ RepN S (n + 1) w' t' (ins key.data.toList v l) ∧ Below w.heap.size w w' := by
    intro w1 t1 hr1 hb1 m
    have hb2 : Below w1.heap.size w1 ((w1.alloc (.cells #[ptr t1, ptr t] 56)).drewN m) := below_drewN'' (below_alloc w1 _) m
    have hb3 : Below w.heap.size w ((w1.alloc (.cells #[ptr t1, ptr t] 56)).drewN m) := hb1.trans (hb2.mono hb1.size)
    refine (joined_rep (S := S) (n := n) (p := key.extract 0 same) (hS.later hb3) (by simp; omega) (ov := none) rfl (row_two (k := w1.heap.size) (t := t1) (u := t) (hS _ hb1.size) (by simp) (by simp)) rfl (kid_two ((hr1.on hb2).fuel (by omega)) (hT.on hb3)) (by rw [key_take]; exact hs) (by have := len_ins_le key.data.toList v l hT.srt; omega)).mono ?_
    rintro e w' ⟨t', rfl, h3, h4⟩
    exact ⟨t', rfl, h3, hb3.trans (h4.mono hb3.size)⟩
  have HJ : Hid (∀ (w1 : World) (t1 : Nat), RepN S 1 w1 t1 [(key.data.toList, v)] → Below w.heap.size w w1 → ∀ m : Nat, Calls Tryz.prog 75 #[.string (key.extract 0 same), .pointer none, .slice (some ⟨w1.heap.size, 0, none⟩) 2 2] ((w1.alloc (.cells #[ptr t1, ptr t] 56)).drewN m) fun e w' => ∃ t', e = .returned (.pointer (some ⟨t', 0, none⟩)) ∧ RepN S (n + 1) w' t' (ins key.data.toList v l) ∧ Below w.heap.size w w') := hj
  have HF : Hid (Calls Tryz.prog 75 #[.string key, .pointer (some ⟨vb, 0, none⟩), .slice none 0 0] w fun e w' => ∃ t', e = .returned (.pointer (some ⟨t', 0, none⟩)) ∧ RepN S (0 + 1) w' t' [(key.data.toList, v)] ∧ Below w.heap.size w w') := hleaf
  have hltI : (key[same].toNat : Int) < (pre[same].toNat : Int) := by have : key[same].toNat < pre[same].toNat := hlt; omega
  clear hj hs hp hkey hvc hT hleaf hlt
  have hne : ¬ (same : Int) = (key.size : Int) := by omega
  have ha : (0 : Int) ≤ (same : Int) := Int.natCast_nonneg _
  have hb : (same : Int) < (key.size : Int) := by omega
  have hc : (same : Int) < (pre.size : Int) := by omega
  have HC : Hid (w.cell? ⟨t, 0, none⟩ = some (.string pre)) := hpc
  go_enter Tryz.func77, Tryz.ntmps77
  go_wp2_with (go_at_call 75; refine HF.out.mono ?_; rintro e w1 ⟨t1, rfl, hrep1, hbel1⟩)
  have hpc1 : w1.cell? ⟨t, 0, none⟩ = some (.string pre) := cell_later hbel1 HC.out
  go_quiet (fail)
  go_wp2_with (go_at_call 75; refine (HJ.out w1 t1 hrep1 hbel1 _).mono ?_; rintro e w' ⟨t', rfl, hrep, hbel⟩)
  go_ret
  exact ⟨t', rfl, hrep, hbel⟩

set_option maxRecDepth 100000 in
set_option maxHeartbeats 400000 in
theorem forked_right {S : Nat → Prop} {w : World} {n t vb same : Nat} {l : List KV} {key pre : ByteArray} {v : Int} (hS : Open S w) (hT : RepN S n w t l) (h0 : 0 < n) (hk : key.size ≤ 64) (hv : S vb) (hvc : w.cell? ⟨vb, 0, none⟩ = some (.int .i64 v)) (hm : l.length + 1 ≤ 1000000)
    (hpc : w.cell? ⟨t, 0, none⟩ = some (.string pre)) (hps : pre.size ≤ 64) (h1 : same < key.size) (h2 : same < pre.size) (hp : ∀ e ∈ l, ∃ r, e.1 = key.data.toList.take same ++ pre[same] :: r) (hlt : pre[same] < key[same]) :
    Calls Tryz.prog 77 #[.pointer (some ⟨t, 0, none⟩), .string key, .pointer (some ⟨vb, 0, none⟩), .int .i64 same] w (Answers S (n + 1) (ins key.data.toList v l) w) := by
  have hkey : key.data.toList = key.data.toList.take same ++ key[same] :: key.data.toList.drop (same + 1) := (key_parts key same h1)
  have hs := shaped_right (v := v) hT.srt hT.ne hkey hp hlt
  have hleaf := joined_rep (S := S) (w := w) (n := 0) (p := key) (cs := []) hS hk (ownAt_some hv hvc) (.inl ⟨rfl, rfl⟩) rfl (fun i c g h => by simp at h) (shaped_leaf key.data.toList v) (by simp)
  have hj : ∀ (w1 : World) (t1 : Nat), RepN S 1 w1 t1 [(key.data.toList, v)] → Below w.heap.size w w1 → ∀ m : Nat, Calls Tryz.prog 75 #[.string (key.extract 0 same), .pointer none, .slice (some ⟨w1.heap.size, 0, none⟩) 2 2] ((w1.alloc (.cells #[ptr t, ptr t1] 56)).drewN m) fun e w' => ∃ t', e = .returned (.pointer (some ⟨t', 0, none⟩)) ∧ RepN S (n + 1) w' t' (ins key.data.toList v l) ∧ Below w.heap.size w w' := by
    intro w1 t1 hr1 hb1 m
    have hb2 : Below w1.heap.size w1 ((w1.alloc (.cells #[ptr t, ptr t1] 56)).drewN m) := below_drewN'' (below_alloc w1 _) m
    have hb3 : Below w.heap.size w ((w1.alloc (.cells #[ptr t, ptr t1] 56)).drewN m) := hb1.trans (hb2.mono hb1.size)
    refine (joined_rep (S := S) (n := n) (p := key.extract 0 same) (hS.later hb3) (by simp; omega) (ov := none) rfl (row_two (k := w1.heap.size) (t := t) (u := t1) (hS _ hb1.size) (by simp) (by simp)) rfl (kid_two (hT.on hb3) ((hr1.on hb2).fuel (by omega))) (by rw [key_take]; exact hs) (by have := len_ins_le key.data.toList v l hT.srt; omega)).mono ?_
    rintro e w' ⟨t', rfl, h3, h4⟩
    exact ⟨t', rfl, h3, hb3.trans (h4.mono hb3.size)⟩
  have HJ : Hid (∀ (w1 : World) (t1 : Nat), RepN S 1 w1 t1 [(key.data.toList, v)] → Below w.heap.size w w1 → ∀ m : Nat, Calls Tryz.prog 75 #[.string (key.extract 0 same), .pointer none, .slice (some ⟨w1.heap.size, 0, none⟩) 2 2] ((w1.alloc (.cells #[ptr t, ptr t1] 56)).drewN m) fun e w' => ∃ t', e = .returned (.pointer (some ⟨t', 0, none⟩)) ∧ RepN S (n + 1) w' t' (ins key.data.toList v l) ∧ Below w.heap.size w w') := hj
  have HF : Hid (Calls Tryz.prog 75 #[.string key, .pointer (some ⟨vb, 0, none⟩), .slice none 0 0] w fun e w' => ∃ t', e = .returned (.pointer (some ⟨t', 0, none⟩)) ∧ RepN S (0 + 1) w' t' [(key.data.toList, v)] ∧ Below w.heap.size w w') := hleaf
  have hltI : (pre[same].toNat : Int) < (key[same].toNat : Int) := by have : pre[same].toNat < key[same].toNat := hlt; omega
  have hge : ¬ (key[same].toNat : Int) < (pre[same].toNat : Int) := by omega
  clear hltI
  clear hj hs hp hkey hvc hT hleaf hlt
  have hne : ¬ (same : Int) = (key.size : Int) := by omega
  have ha : (0 : Int) ≤ (same : Int) := Int.natCast_nonneg _
  have hb : (same : Int) < (key.size : Int) := by omega
  have hc : (same : Int) < (pre.size : Int) := by omega
  have HC : Hid (w.cell? ⟨t, 0, none⟩ = some (.string pre)) := hpc
  go_enter Tryz.func77, Tryz.ntmps77
  go_wp2_with (go_at_call 75; refine HF.out.mono ?_; rintro e w1 ⟨t1, rfl, hrep1, hbel1⟩)
  have hpc1 : w1.cell? ⟨t, 0, none⟩ = some (.string pre) := cell_later hbel1 HC.out
  go_quiet (fail)
  go_wp2_with (go_at_call 75; refine (HJ.out w1 t1 hrep1 hbel1 _).mono ?_; rintro e w' ⟨t', rfl, hrep, hbel⟩)
  go_ret
  exact ⟨t', rfl, hrep, hbel⟩

end Go.Proofs.YtcgjppacnhmjlaaGreat
