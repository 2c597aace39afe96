/- Own texts: PUniE, PUniF. -/
import Derived.Test.YtcgjppacnhmjlaaFmAZ

section
set_option linter.unusedVariables false
set_option linter.unusedSimpArgs false
set_option linter.unusedSectionVars false
set_option linter.unusedVariables false
set_option linter.unusedSimpArgs false
namespace Go.Proofs.Ytcgjppacnhmjlaa
open Go.RowKit

theorem OwnAt.uniq {S S' : Nat → Prop} {w : World} {vp : Option Addr} {o o' : Option Plc} (h : OwnAt S w vp o) (h' : OwnAt S' w vp o') : o = o' := by
  cases o with
  | none =>
    cases o' with
    | none => rfl
    | some v => obtain ⟨vb, _, h2, _⟩ := h'; have h1 : vp = none := h; rw [h1] at h2; cases h2
  | some v =>
    obtain ⟨vb, _, h2, h3⟩ := h
    cases o' with
    | none => have h1 : vp = none := h'; rw [h1] at h2; cases h2
    | some v' =>
      obtain ⟨vb', _, h4, h5⟩ := h'
      rw [h2] at h4; cases h4
      rw [h3.uniq h5]
theorem RowAt.uniq {S S' : Nat → Prop} {w : World} {bv : Value} {cs cs' : List Nat} (h : RowAt S w bv cs) (h' : RowAt S' w bv cs') : cs = cs' := by
  rcases h with ⟨rfl, rfl⟩ | ⟨k, o, cap, _, rfl, _, _, h5, h6⟩
  · rcases h' with ⟨rfl, _⟩ | ⟨k', o', cap', _, h2, _⟩
    · rfl
    · cases h2
  · rcases h' with ⟨_, h2⟩ | ⟨k', o', cap', _, h2, _, _, h7, h8⟩
    · cases h2
    · simp only [Value.slice.injEq, Option.some.injEq, Addr.mk.injEq] at h2
      obtain ⟨⟨rfl, rfl, _⟩, hl, rfl⟩ := h2
      refine List.ext_getElem? fun i => ?_
      by_cases hi : i < cs.length
      · have e1 := List.getElem?_eq_getElem hi
        have e2 := List.getElem?_eq_getElem (l := cs') (i := i) (by omega)
        have h9 := h5 i _ e1
        have h10 := h7 i _ e2
        rw [h9] at h10
        simp only [Option.some.injEq, Value.pointer.injEq, Addr.mk.injEq] at h10
        rw [e1, e2, h10.1]
      · rw [List.getElem?_eq_none (by omega), List.getElem?_eq_none (by omega)]
theorem RepN.uniq {S S' : Nat → Prop} {w : World} : ∀ {n m b : Nat} {l l' : List KV}, RepN S n w b l → RepN S' m w b l' → l = l'
  | 0, _, _, _, _, h, _ => h.elim
  | n + 1, 0, _, _, _, _, h => h.elim
  | n + 1, m + 1, b, l, l', ⟨pre, vp, bv, ov, cs, xs, gs, hN, hO, hR, hl, hC, hs⟩, ⟨pre', vp', bv', ov', cs', xs', gs', hN', hO', hR', hl', hC', hs'⟩ => by
    have e1 := hN.c0.symm.trans hN'.c0
    have e2 := hN.c1.symm.trans hN'.c1
    have e3 := hN.c2.symm.trans hN'.c2
    simp only [Option.some.injEq, Value.string.injEq, Value.pointer.injEq] at e1 e2 e3
    subst e1; subst e2; subst e3
    have e4 := hO.uniq hO'
    have e5 := hR.uniq hR'
    subst e4; subst e5
    have e6 : gs = gs' := by
      refine List.ext_getElem? fun i => ?_
      by_cases hi : i < cs.length
      · have c1 := List.getElem?_eq_getElem hi
        have c2 := List.getElem?_eq_getElem (l := gs) (i := i) (by omega)
        have c3 := List.getElem?_eq_getElem (l := gs') (i := i) (by omega)
        rw [c2, c3, RepN.uniq (hC i _ _ c1 c2) (hC' i _ _ c1 c3)]
      · rw [List.getElem?_eq_none (by omega), List.getElem?_eq_none (by omega)]
    subst e6
    rw [hs.eq, hs'.eq]

end Go.Proofs.Ytcgjppacnhmjlaa
end

section
set_option linter.unusedVariables false
set_option linter.unusedSimpArgs false
set_option linter.unusedSectionVars false
set_option linter.unusedVariables false
set_option linter.unusedSimpArgs false
namespace Go.Proofs.Ytcgjppacnhmjlaa
open Go.RowKit

theorem eql_same (c : Nat) (w : World) : (binOp .eql 93 (.pointer (some ⟨c, 0, none⟩)) (.pointer (some ⟨c, 0, none⟩))).run Try.prog w = .ok (.bool true) w := by
  obtain ⟨i0, hi0, _⟩ := info_parts infoT
  exact run_eql_ptr_same w _ Try.underlying93 hi0
theorem eql_other {c d : Nat} {w : World} (hne : ¬ c = d) {a b : Array Value} (ha : w.heap[c]? = some (.cells a 103 (0, 0))) (hb : w.heap[d]? = some (.cells b 103 (0, 0))) :
    (binOp .eql 93 (.pointer (some ⟨c, 0, none⟩)) (.pointer (some ⟨d, 0, none⟩))).run Try.prog w = .ok (.bool false) w := by
  obtain ⟨i0, hi0, _, h4, _⟩ := info_parts infoT
  exact run_eql_ptr_other w Try.underlying93 hi0 (by rw [h4]; decide) (fun h => hne (congrArg Addr.block h)) ha hb
attribute [local go_sem ↓] Go.wp_at_zero Go.wp_at_succ

theorem lcp_ge : ∀ {c a b : List UInt8}, c <+: a → c <+: b → c.length ≤ lcpLen a b
  | [], _, _, _, _ => Nat.zero_le _
  | z :: c, a, b, ⟨r, hr⟩, ⟨s, hs⟩ => by
    subst hr; subst hs
    have := lcp_ge (c := c) (a := c ++ r) (b := c ++ s) (List.prefix_append _ _) (List.prefix_append _ _)
    simp only [List.cons_append, lcpLen, if_true, List.length_cons]; omega
/-- A tree is no higher than what is left of a key's length. -/
theorem RepN.tight {S : Nat → Prop} {w : World} : ∀ {n t : Nat} {l : List KV} {c : List UInt8}, RepN S n w t l → (∀ e ∈ l, c <+: e.1) → c.length ≤ 64 ∧ RepN S (65 - c.length) w t l
  | 0, _, _, _, h, _ => h.elim
  | n + 1, t, l, c, ⟨pre, vp, bv, ov, cs, xs, gs, hN, hO, hR, hl, hC, hs⟩, hq => by
    have hp := (hs.pre_of hq).length_le
    have hsz := hN.short
    rw [Lib.size_eq] at hsz
    refine ⟨by omega, ?_⟩
    rw [show 65 - c.length = (64 - c.length) + 1 by omega]
    refine ⟨pre, vp, bv, ov, cs, xs, gs, hN, hO, hR, hl, fun i d g h1 h2 => ?_, hs⟩
    obtain ⟨x, hx⟩ := hs.grps.byte h2
    have := (RepN.tight (c := pre.data.toList ++ [x]) (hC i d g h1 h2) fun e he => by
      obtain ⟨r, hr⟩ := hs.grps.pre i x g hx h2 e he
      exact ⟨r, by rw [hr]; simp⟩).2
    exact this.fuel (by simp; simp at hp; omega)

/-- What seenFrom tells of a tree. -/
structure Sees (S : Nat → Prop) (K : Nat) (w : World) (t k : Nat) (c : List UInt8) (l : List KV) (vp : Option Addr) (ov : Option Plc) (a : List (Grp Plc)) : Prop where
  view : View c ov a l
  own : OwnAt S w vp ov
  call : ∀ w1, Below w.heap.size w w1 → Calls Try.prog 89 #[.pointer (some ⟨t, 0, none⟩), .int .i64 k] w1 fun e w' => ∃ bv cs, e = .returned (.tuple #[.pointer vp, bv]) ∧ RowAt S w' bv cs ∧ Kids S K w' cs a ∧ Below w.heap.size w w' ∧ Below w1.heap.size w1 w'
theorem sees_any {S : Nat → Prop} {w : World} {n t k : Nat} {l : List KV} {pre : ByteArray} (hS : Open S w) (hT : RepN S n w t l) (hpc : w.cell? ⟨t, 0, none⟩ = some (.string pre)) (hk : k ≤ pre.size) :
    pre.size ≤ 64 ∧ ∃ vp ov a, Sees S (64 - k) w t k (pre.data.toList.take k) l vp ov a ∧ (ov = none → 2 ≤ a.length ∨ ∃ y, pre.data.toList[k]? = some y ∧ a = [(y, l)]) := by
  cases n with
  | zero => exact hT.elim
  | succ n =>
    have hT0 := hT
    obtain ⟨pre', vp, bv, ov, cs, xs, gs, hN, hO, hR, hl, hC, hs⟩ := hT
    obtain rfl : pre' = pre := by have := hN.c0.symm.trans hpc; simpa using this
    have hp := hN.short
    refine ⟨hp, ?_⟩
    rcases Nat.lt_or_ge k pre'.size with h | h
    · have hlt : k < pre'.data.toList.length := by simpa using h
      have hpar : ∀ e ∈ l, ∃ r, e.1 = pre'.data.toList.take k ++ pre'.data.toList[k] :: r := fun e he => by
        obtain ⟨r, hr⟩ := hs.front he
        refine ⟨pre'.data.toList.drop (k + 1) ++ r, ?_⟩
        rw [← hr]
        conv => lhs; rw [← List.take_append_drop k pre'.data.toList]
        rw [List.drop_eq_getElem_cons hlt]; simp
      refine ⟨none, none, [(pre'.data.toList[k], l)], ⟨view_one hs.srt hT0.ne hpar, rfl, fun w1 hb => ?_⟩, fun _ => .inr ⟨_, List.getElem?_eq_getElem hlt, rfl⟩⟩
      refine (seen_over (cell_later hb hpc) hp h).mono ?_
      rintro e w' ⟨rfl, hw⟩
      have hb2 : Below w1.heap.size w1 w' := hw ▸ below_alloc _ _
      have hb3 := hb.trans (hb2.mono hb.size)
      refine ⟨_, [t], rfl, row_one (hS _ hb.size) (by rw [hw]; simp [ptr]), Kids.one ?_, hb3, hb2⟩
      have := (hT0.tight (c := pre'.data.toList.take k ++ [pre'.data.toList[k]]) fun e he => by obtain ⟨r, hr⟩ := hpar e he; exact ⟨r, by rw [hr]; simp⟩).2
      refine RepN.on (w := w) ?_ hb3
      exact this.fuel (by simp at hlt ⊢; omega)
    · have hk2 : k = pre'.size := by omega
      have htk : pre'.data.toList.take k = pre'.data.toList := List.take_of_length_le (by rw [hk2, Lib.size_eq]; exact Nat.le_refl _)
      refine ⟨vp, ov, xs.zip gs, ⟨by rw [htk]; exact hs.view, hO, fun w1 hb => ?_⟩, fun h0 => .inl ?_⟩
      · refine (seen_own (cell_later hb hpc) (cell_later hb hN.c1) (cell_later hb hN.c2) hp hk2).mono ?_
        rintro e w' ⟨rfl, m, hw⟩
        have hb2 : Below w1.heap.size w1 w' := hw ▸ below_drawn _ _
        have hb3 := hb.trans (hb2.mono hb.size)
        refine ⟨_, cs, rfl, hR.later hb3, (Kids.of hl hs.grps.len (fun i c g h1 h2 => ?_)), hb3, hb2⟩
        obtain ⟨x, hx⟩ := hs.grps.byte h2
        have := ((hC i c g h1 h2).tight (c := pre'.data.toList ++ [x]) fun e he => by
          obtain ⟨r, hr⟩ := hs.grps.pre i x g hx h2 e he
          exact ⟨r, by rw [hr]; simp⟩).2
        refine RepN.on (w := w) ?_ hb3
        exact this.fuel (by simp; omega)
      · have := hs.two h0
        have h3 := hs.grps.len
        simp; omega

theorem union_nil (u : Option Addr) (w : World) : Calls Try.prog 53 #[.pointer none, .pointer u] w fun e w' => e = .returned (.pointer u) ∧ w' = w := by
  go_enter Try.func53, Try.ntmps53
  go_wp2
  go_ret
  exact ⟨rfl, rfl⟩
theorem union_none (t : Nat) (w : World) : Calls Try.prog 53 #[.pointer (some ⟨t, 0, none⟩), .pointer none] w fun e w' => e = .returned (.pointer (some ⟨t, 0, none⟩)) ∧ w' = w := by
  go_enter Try.func53, Try.ntmps53
  go_wp2
  go_ret
  exact ⟨rfl, rfl⟩
theorem union_same (t : Nat) (w : World) : Calls Try.prog 53 #[.pointer (some ⟨t, 0, none⟩), .pointer (some ⟨t, 0, none⟩)] w fun e w' => e = .returned (.pointer (some ⟨t, 0, none⟩)) ∧ w' = w := by
  have heq := eql_same t w
  go_enter Try.func53, Try.ntmps53
  go_wp2
  go_ret
  exact ⟨rfl, rfl⟩

set_option maxRecDepth 100000 in
set_option maxHeartbeats 400000 in
theorem union_walk {w : World} {t u same : Nat} {pre qre : ByteArray} {vp vq : Option Addr} {L1 : World → Value → Prop} {L2 : World → Value → Value → Prop} {L3 : World → Value → Prop} {Post : Ending → World → Prop} (heq : (binOp .eql 93 (.pointer (some ⟨t, 0, none⟩)) (.pointer (some ⟨u, 0, none⟩))).run Try.prog w = .ok (.bool false) w) (hpc : w.cell? ⟨t, 0, none⟩ = some (.string pre)) (hqc : w.cell? ⟨u, 0, none⟩ = some (.string qre)) (hp : pre.size ≤ 64) (hq : qre.size ≤ 64) (hsame : lcpLen pre.data.toList qre.data.toList = same) (hsp : same ≤ pre.size)
    (hA : ∀ w1, Below w.heap.size w w1 → Calls Try.prog 89 #[.pointer (some ⟨t, 0, none⟩), .int .i64 same] w1 fun e w' => ∃ bv, e = .returned (.tuple #[.pointer vp, bv]) ∧ L1 w' bv ∧ Below w.heap.size w w')
    (hB : ∀ w1 bv, L1 w1 bv → Below w.heap.size w w1 → Calls Try.prog 89 #[.pointer (some ⟨u, 0, none⟩), .int .i64 same] w1 fun e w' => ∃ bw, e = .returned (.tuple #[.pointer vq, bw]) ∧ L2 w' bv bw ∧ Below w.heap.size w w')
    (hD : ∀ w1 bv bw, L2 w1 bv bw → L2 w1.drew bv bw)
    (hM : ∀ w1 bv bw, L2 w1 bv bw → Below w.heap.size w w1 → Calls Try.prog 91 #[bv, bw, .int .i64 same] w1 fun e w' => ∃ bx, e = .returned bx ∧ L3 w' bx ∧ Below w.heap.size w w')
    (hJ : ∀ w1 bx, L3 w1 bx → Below w.heap.size w w1 → Calls Try.prog 90 #[.string (pre.extract 0 same), .pointer (vq.or vp), bx] w1 fun e w' => ∃ t', e = .returned (.pointer (some ⟨t', 0, none⟩)) ∧ Below w.heap.size w w' ∧ Post e w') :
    Calls Try.prog 53 #[.pointer (some ⟨t, 0, none⟩), .pointer (some ⟨u, 0, none⟩)] w Post := by
  have hsl := fun w1 => sharedLength_any pre qre w1 (by unfold maxLen; omega) (by unfold maxLen; omega)
  rw [hsame] at hsl
  have HS : Hid (∀ w1, Calls Try.prog 78 #[.string pre, .string qre] w1 fun e w' => e = .returned (.int .i64 same) ∧ ∃ n, w' = w1.drewN n) := hsl
  have HA : Hid (∀ w1, Below w.heap.size w w1 → Calls Try.prog 89 #[.pointer (some ⟨t, 0, none⟩), .int .i64 same] w1 fun e w' => ∃ bv, e = .returned (.tuple #[.pointer vp, bv]) ∧ L1 w' bv ∧ Below w.heap.size w w') := hA
  have HB : Hid (∀ w1 bv, L1 w1 bv → Below w.heap.size w w1 → Calls Try.prog 89 #[.pointer (some ⟨u, 0, none⟩), .int .i64 same] w1 fun e w' => ∃ bw, e = .returned (.tuple #[.pointer vq, bw]) ∧ L2 w' bv bw ∧ Below w.heap.size w w') := hB
  have HD : Hid (∀ w1 bv bw, L2 w1 bv bw → L2 w1.drew bv bw) := hD
  have HM : Hid (∀ w1 bv bw, L2 w1 bv bw → Below w.heap.size w w1 → Calls Try.prog 91 #[bv, bw, .int .i64 same] w1 fun e w' => ∃ bx, e = .returned bx ∧ L3 w' bx ∧ Below w.heap.size w w') := hM
  have HJ : Hid (∀ w1 bx, L3 w1 bx → Below w.heap.size w w1 → Calls Try.prog 90 #[.string (pre.extract 0 same), .pointer (vq.or vp), bx] w1 fun e w' => ∃ t', e = .returned (.pointer (some ⟨t', 0, none⟩)) ∧ Below w.heap.size w w' ∧ Post e w') := hJ
  have HC : Hid (w.cell? ⟨t, 0, none⟩ = some (.string pre)) := hpc
  have h0 : (0 : Int) ≤ (same : Int) := Int.natCast_nonneg _
  have h1 : (same : Int) ≤ (pre.size : Int) := by omega
  clear hsl hA hB hD hM hJ hsame
  cases vq with
  | none =>
    simp only [Option.none_or] at HJ
    go_enter Try.func53, Try.ntmps53
    go_wp2_with fail
    go_quiet ((go_at_call 78; exact Calls.quiet_of (HS.out _)))
    go_wp2_with (first
      | (go_at_call_of 89 (Value.pointer (some (Addr.mk t 0 none))); refine (HA.out _ (below_drawn _ _)).mono ?_; rintro e w1 ⟨bv, rfl, hl1, hb1⟩)
      | (go_at_call_of 89 (Value.pointer (some (Addr.mk u 0 none))); refine (HB.out _ _ hl1 hb1).mono ?_; rintro e w2 ⟨bw, rfl, hl2, hb2⟩))
    have hpc2 := cell_later hb2 HC.out
    go_region_held3 (fun w' => w'.cell? ⟨t, 0, none⟩ = some (.string pre))
      (first | exact cell_later hb4 HC.out | exact cell_later hb3 HC.out | exact cell_later hb2 HC.out | go_keep)
      (first
        | (go_at_call 91; refine (HM.out _ _ _ (HD.out _ _ _ hl2) hb2.drew).mono ?_; rintro e w3 ⟨bx, rfl, hl3, hb3⟩)
        | (go_at_call 90; refine (HJ.out _ _ hl3 hb3).mono ?_; rintro e w4 ⟨t', rfl, hb4, hpost⟩))
    go_wp2
    exact hpost
  | some q =>
    simp only [Option.some_or] at HJ
    go_enter Try.func53, Try.ntmps53
    go_wp2_with fail
    go_quiet ((go_at_call 78; exact Calls.quiet_of (HS.out _)))
    go_wp2_with (first
      | (go_at_call_of 89 (Value.pointer (some (Addr.mk t 0 none))); refine (HA.out _ (below_drawn _ _)).mono ?_; rintro e w1 ⟨bv, rfl, hl1, hb1⟩)
      | (go_at_call_of 89 (Value.pointer (some (Addr.mk u 0 none))); refine (HB.out _ _ hl1 hb1).mono ?_; rintro e w2 ⟨bw, rfl, hl2, hb2⟩))
    have hpc2 := cell_later hb2 HC.out
    go_region_held3 (fun w' => w'.cell? ⟨t, 0, none⟩ = some (.string pre))
      (first | exact cell_later hb4 HC.out | exact cell_later hb3 HC.out | exact cell_later hb2 HC.out | go_keep)
      (first
        | (go_at_call 91; refine (HM.out _ _ _ (HD.out _ _ _ hl2) hb2.drew).mono ?_; rintro e w3 ⟨bx, rfl, hl3, hb3⟩)
        | (go_at_call 90; refine (HJ.out _ _ hl3 hb3).mono ?_; rintro e w4 ⟨t', rfl, hb4, hpost⟩))
    go_wp2
    exact hpost

theorem OwnAt.or {S : Nat → Prop} {w : World} {vp vq : Option Addr} {o1 o2 : Option Plc} (h1 : OwnAt S w vp o1) (h2 : OwnAt S w vq o2) : OwnAt S w (vq.or vp) (o2.or o1) := by
  cases o2 with
  | none => rw [show vq = none from h2]; simpa using h1
  | some v => obtain ⟨vb, a, rfl, c⟩ := h2; exact ⟨vb, a, rfl, c⟩

theorem union_go : ∀ (k : Nat) {c0 : List UInt8} {S : Nat → Prop} {w : World} {t u n1 n2 : Nat} {l m : List KV}, 65 ≤ c0.length + k → Open S w → RepN S n1 w t l → RepN S n2 w u m → (∀ e ∈ l, c0 <+: e.1) → (∀ e ∈ m, c0 <+: e.1) → l.length + m.length ≤ 1000000 →
    Calls Try.prog 53 #[.pointer (some ⟨t, 0, none⟩), .pointer (some ⟨u, 0, none⟩)] w (Answers S k (uni l m) w)
  | 0, c0, S, w, t, u, n1, n2, l, m, hk, hS, hT, hU, hl, hm, hs => by
    have := (hT.tight hl).1
    omega
  | k + 1, c0, S, w, t, u, n1, n2, l, m, hk, hS, hT, hU, hl, hm, hs => by
    by_cases htu : t = u
    · subst htu
      have e := hT.uniq hU
      subst e
      refine (union_same t w).mono ?_
      rintro e w' ⟨rfl, hw⟩
      subst hw
      refine ⟨t, rfl, ?_, Below.refl _ _⟩
      rw [uni_self hT.srt]
      have := (hT.tight hl).2
      exact this.fuel (by omega)
    · obtain ⟨pre, hpc, hcp⟩ : ∃ pre : ByteArray, w.cell? ⟨t, 0, none⟩ = some (.string pre) ∧ c0 <+: pre.data.toList := by
        cases n1 with
        | zero => exact hT.elim
        | succ n => obtain ⟨pre, vp, bv, ov, cs, xs, gs, hN, hO, hR, hl', hC, hs'⟩ := hT; exact ⟨pre, hN.c0, hs'.pre_of hl⟩
      obtain ⟨qre, hqc, hcq⟩ : ∃ pre : ByteArray, w.cell? ⟨u, 0, none⟩ = some (.string pre) ∧ c0 <+: pre.data.toList := by
        cases n2 with
        | zero => exact hU.elim
        | succ n => obtain ⟨pre, vp, bv, ov, cs, xs, gs, hN, hO, hR, hl', hC, hs'⟩ := hU; exact ⟨pre, hN.c0, hs'.pre_of hm⟩
      obtain ⟨p1, p2, p3⟩ := lcp_parts pre.data.toList qre.data.toList
      have lle1 := lcpLen_le_left pre.data.toList qre.data.toList
      have lle2 := lcpLen_le_right pre.data.toList qre.data.toList
      rw [← Lib.size_eq] at lle1 lle2
      have hge := lcp_ge hcp hcq
      obtain ⟨same, hsame⟩ : ∃ same, lcpLen pre.data.toList qre.data.toList = same := ⟨_, rfl⟩
      rw [hsame] at p1 p2 p3 lle1 lle2 hge
      have htq : qre.data.toList.take same = pre.data.toList.take same := by
        have h5 : (pre.data.toList.take same).length = same := by rw [List.length_take, ← Lib.size_eq]; omega
        conv => lhs; rw [p2]
        rw [List.take_append_of_le_length (by omega), List.take_of_length_le (by omega)]
      obtain ⟨hps, vp, o1, a, s1, t1⟩ := sees_any hS hT hpc lle1
      obtain ⟨hqs, vq, o2, b, s2, t2⟩ := sees_any hS hU hqc lle2
      rw [htq] at s2
      obtain ⟨c, hc⟩ : ∃ c, pre.data.toList.take same = c := ⟨_, rfl⟩
      have hcl : c.length = same := by rw [← hc, List.length_take, ← Lib.size_eq]; omega
      rw [hc] at s1 s2
      have hma := mg_all _ (Nat.le_refl _) s1.view.gp s2.view.gp
      have hshape := (s1.view.uni s2.view).shaped (fun h0 => by
        have e2 : o2 = none := by cases o2 with
          | none => rfl
          | some v => simp at h0
        have e1 : o1 = none := by rw [e2] at h0; simpa using h0
        rcases t1 e1 with h | ⟨y, hy, ha⟩
        · exact Nat.le_trans h hma.2.2.2.1
        · rcases t2 e2 with h | ⟨z, hz, hb⟩
          · exact Nat.le_trans h hma.2.2.2.2
          · have hyz : y ≠ z := by
              obtain ⟨i1, j1⟩ := List.getElem?_eq_some_iff.mp hy
              obtain ⟨i2, j2⟩ := List.getElem?_eq_some_iff.mp hz
              exact p3 y z _ _ (by rw [List.drop_eq_getElem_cons i1, j1]) (by rw [List.drop_eq_getElem_cons i2, j2])
            rw [ha, hb]
            rcases u8_tri y z with h | h | h
            · rw [mg_lt h, nil_mg]; simp
            · exact absurd h hyz
            · rw [mg_gt h, mg_nil]; simp)
      have hlen : (uni l m).length ≤ 1000000 := Nat.le_trans (len_uni_le s1.view.srt) hs
      have hfl : (flatG a).length + (flatG b).length ≤ 1000000 := by
        have e1 := s1.view.eq
        have e2 := s2.view.eq
        have e3 : l.length = (ownL c o1).length + (flatG a).length := by rw [e1, List.length_append]
        have e4 : m.length = (ownL c o2).length + (flatG b).length := by rw [e2, List.length_append]
        omega
      refine union_walk (L1 := fun w' bv => Below w.heap.size w w' ∧ ∃ cs, RowAt S w' bv cs ∧ Kids S (64 - same) w' cs a) (L2 := fun w' bv bw => ∃ cs ds, RowAt S w' bv cs ∧ Kids S (64 - same) w' cs a ∧ RowAt S w' bw ds ∧ Kids S (64 - same) w' ds b) (L3 := fun w' bx => ∃ es, RowAt S w' bx es ∧ Kids S (64 - same) w' es (mg a b)) (vp := vp) (vq := vq) (by obtain ⟨ca, h1⟩ := hT.blk; obtain ⟨cb, h2⟩ := hU.blk; exact eql_other htu h1 h2) hpc hqc hps hqs hsame lle1 ?_ ?_ ?_ ?_ ?_
      · intro w1 hb
        refine (s1.call w1 hb).mono ?_
        rintro e w' ⟨bv, cs, rfl, h1, h2, h3, _⟩
        exact ⟨bv, rfl, ⟨h3, cs, h1, h2⟩, h3⟩
      · rintro w1 bv ⟨_, cs, h1, h2⟩ hb
        refine (s2.call w1 hb).mono ?_
        rintro e w' ⟨bw, ds, rfl, h3, h4, h5, h6⟩
        exact ⟨bw, rfl, ⟨cs, ds, h1.later h6, h2.on h6, h3, h4⟩, h5⟩
      · rintro w1 bv bw ⟨cs, ds, h1, h2, h3, h4⟩
        have h6 : Below w1.heap.size w1 w1.drew := (Below.refl _ _).drew
        exact ⟨cs, ds, h1.later h6, h2.on h6, h3.later h6, h4.on h6⟩
      · rintro w1 bv bw ⟨cs, ds, h1, h2, h3, h4⟩ hb
        have := merged_any (c := c) (K := 64 - same) (hS.later hb) h1 h3 h2 h4 s1.view.gp s2.view.gp (by omega) (Nat.le_refl _) (Nat.le_refl _) hfl (fun S' w2 t' u' p q hS' hp hq hpq hz => by
          obtain ⟨z, z1, z2⟩ := hz
          have zp : ∀ e ∈ p, c ++ [z] <+: e.1 := fun e he => by obtain ⟨r, hr⟩ := z1 e he; exact ⟨r, by rw [hr]; simp⟩
          have zq : ∀ e ∈ q, c ++ [z] <+: e.1 := fun e he => by obtain ⟨r, hr⟩ := z2 e he; exact ⟨r, by rw [hr]; simp⟩
          refine (union_go k (c0 := c ++ [z]) (by simp; omega) hS' hp hq zp zq hpq).mono ?_
          rintro e w' ⟨t'', he, h5, h6⟩
          refine ⟨t'', he, ?_, h6⟩
          have := (h5.tight (c := c ++ [z]) fun e he => by
            rcases (mem_uni hq.srt).mp he with h | ⟨h, _⟩
            · exact zq e h
            · exact zp e h).2
          exact this.fuel (by simp; omega))
        rw [hcl] at this
        refine this.mono ?_
        rintro e w' ⟨bx, es, rfl, h5, h6, h7⟩
        exact ⟨bx, rfl, ⟨es, h5, h6⟩, hb.trans (h7.mono hb.size)⟩
      · rintro w1 bx ⟨es, h5, h6⟩ hb
        refine (joined_rep (S := S) (n := 64 - same) (hS.later hb) (by simp; omega) ((s1.own.or s2.own).later hb) h5 h6.to.1 h6.to.2 (by rw [key_take, hc]; exact hshape) hlen).mono ?_
        intro e w' h
        obtain ⟨t', h7, h8, h9⟩ := ans_of hb h
        obtain ⟨t'', h10, h11, h12⟩ := h9
        exact ⟨t', h7, h8, t'', h10, h11.fuel (by omega), h12⟩

end Go.Proofs.Ytcgjppacnhmjlaa
end
