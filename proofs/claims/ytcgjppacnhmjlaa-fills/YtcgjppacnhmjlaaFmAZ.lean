/- Own texts: PUniC, PUniD. -/
import Derived.Test.YtcgjppacnhmjlaaFmAY

section
set_option linter.unusedVariables false
set_option linter.unusedSimpArgs false
set_option linter.unusedSectionVars false
set_option linter.unusedVariables false
set_option linter.unusedSimpArgs false
namespace Go.Proofs.Ytcgjppacnhmjlaa
open Go.RowKit
attribute [local go_sem ↓] Go.wp_at_zero Go.wp_at_succ

section
variable {S : Nat → Prop} {w wr w' : World} {g C n1 n2 K : Nat} {c : List UInt8} {A : List (Grp Plc)} {cs ds es : List Nat} {a b d : List (Grp Plc)} {k0 o0 p0 k1 o1 p1 x y t : Nat} {q s : Grp Plc}
theorem MS.step (h : MS S w g C n1 n2 K c A cs ds es a b d k0 o0 p0 k1 o1 p1 wr) (hb : Below wr.heap.size wr w') {e : Grp Plc} (he : RepN (fun k => S k ∧ k ≠ g) K w' t e.2) (hc : es.length + 1 ≤ C) :
    Kids (fun k => S k ∧ k ≠ g) K (w'.setCells g es.length [ptr t]) (es ++ [t]) (d ++ [e]) ∧ Both (w'.setCells g es.length [ptr t]) g C (es ++ [t]) ∧ But g w' (w'.setCells g es.length [ptr t]) :=
  have hbut : But g w' (w'.setCells g es.length [ptr t]) := but_setCells g [ptr t] es.length w'
  ⟨((h.qd.on hb).append (Kids.one he)).but hbut, (h.bo.on hb).put [t] hc, hbut⟩
theorem flat_len (q : Grp Plc) (a : List (Grp Plc)) : (flatG (q :: a)).length = q.2.length + (flatG a).length := by rw [flatG_cons, List.length_append]
theorem MS.left (h : MS S w g C n1 n2 K c A (x :: cs) (y :: ds) es (q :: a) (s :: b) d k0 o0 p0 k1 o1 p1 wr) (hlt : q.1 < s.1) (hn : n1 ≤ K) (hb : Below wr.heap.size wr w') :
    MS S w g C n1 n2 K c A cs (y :: ds) (es ++ [x]) a (s :: b) (d ++ [q]) k0 (if p0 = 1 then o0 else o0 + 1) (p0 - 1) k1 o1 p1 (w'.setCells g es.length [ptr x]) := by
  have hcap := h.cap
  simp at hcap
  have hsm := h.sm
  rw [flat_len q a] at hsm
  obtain ⟨s1, s2, s3⟩ := h.step hb ((h.q0.head.on hb).fuel hn) (by omega)
  have h' := h.on hb
  refine ⟨(h'.l0.tail).but s3, h'.l1.but s3, h'.q0.tail.but s3, h'.q1.but s3, s1, s2, by simp; omega, ?_, h.g0.tail, h.g1, by omega, h'.bow s3, h.hg.1, Nat.lt_of_lt_of_le h'.hg.2 s3.size⟩
  rw [← h.eq, mg_lt hlt]; simp
theorem MS.right (h : MS S w g C n1 n2 K c A (x :: cs) (y :: ds) es (q :: a) (s :: b) d k0 o0 p0 k1 o1 p1 wr) (hlt : s.1 < q.1) (hn : n2 ≤ K) (hb : Below wr.heap.size wr w') :
    MS S w g C n1 n2 K c A (x :: cs) ds (es ++ [y]) (q :: a) b (d ++ [s]) k0 o0 p0 k1 (if p1 = 1 then o1 else o1 + 1) (p1 - 1) (w'.setCells g es.length [ptr y]) := by
  have hcap := h.cap
  simp at hcap
  have hsm := h.sm
  rw [flat_len s b] at hsm
  obtain ⟨s1, s2, s3⟩ := h.step hb ((h.q1.head.on hb).fuel hn) (by omega)
  have h' := h.on hb
  refine ⟨h'.l0.but s3, (h'.l1.tail).but s3, h'.q0.but s3, h'.q1.tail.but s3, s1, s2, by simp; omega, ?_, h.g0, h.g1.tail, by omega, h'.bow s3, h.hg.1, Nat.lt_of_lt_of_le h'.hg.2 s3.size⟩
  rw [← h.eq, mg_gt hlt]; simp
theorem MS.same (h : MS S w g C n1 n2 K c A (x :: cs) (y :: ds) es (q :: a) (s :: b) d k0 o0 p0 k1 o1 p1 wr) (hlt : q.1 = s.1) (hb : Below wr.heap.size wr w') (ht : RepN (fun k => S k ∧ k ≠ g) K w' t (uni q.2 s.2)) :
    MS S w g C n1 n2 K c A cs ds (es ++ [t]) a b (d ++ [(q.1, uni q.2 s.2)]) k0 (if p0 = 1 then o0 else o0 + 1) (p0 - 1) k1 (if p1 = 1 then o1 else o1 + 1) (p1 - 1) (w'.setCells g es.length [ptr t]) := by
  have hcap := h.cap
  simp at hcap
  have hsm := h.sm
  rw [flat_len q a, flat_len s b] at hsm
  obtain ⟨s1, s2, s3⟩ := h.step hb (e := (q.1, uni q.2 s.2)) ht (by omega)
  have h' := h.on hb
  refine ⟨(h'.l0.tail).but s3, (h'.l1.tail).but s3, h'.q0.tail.but s3, h'.q1.tail.but s3, s1, s2, by simp; omega, ?_, h.g0.tail, h.g1.tail, by omega, h'.bow s3, h.hg.1, Nat.lt_of_lt_of_le h'.hg.2 s3.size⟩
  rw [← h.eq, mg_eq hlt]; simp
/-- What is left of a list behind its first. -/
def Cut1 (o p o' p' : Nat) : Prop := (p = 1 ∧ o' = o ∧ p' = 0) ∨ (p ≠ 1 ∧ o' = o + 1 ∧ p' = p - 1)
theorem Cut1.eq {o p o' p' : Nat} (h : Cut1 o p o' p') : (if p = 1 then o else o + 1) = o' ∧ p - 1 = p' := by
  unfold Cut1 at h; split <;> omega
theorem MS.left' {o' p' : Nat} (h : MS S w g C n1 n2 K c A (x :: cs) (y :: ds) es (q :: a) (s :: b) d k0 o0 p0 k1 o1 p1 wr) (hlt : q.1 < s.1) (hn : n1 ≤ K) (hb : Below wr.heap.size wr w') (hq : Cut1 o0 p0 o' p') :
    MS S w g C n1 n2 K c A cs (y :: ds) (es ++ [x]) a (s :: b) (d ++ [q]) k0 o' p' k1 o1 p1 (w'.setCells g es.length [ptr x]) := by
  have := h.left hlt hn hb
  rw [hq.eq.1, hq.eq.2] at this; exact this
theorem MS.right' {o' p' : Nat} (h : MS S w g C n1 n2 K c A (x :: cs) (y :: ds) es (q :: a) (s :: b) d k0 o0 p0 k1 o1 p1 wr) (hlt : s.1 < q.1) (hn : n2 ≤ K) (hb : Below wr.heap.size wr w') (hq : Cut1 o1 p1 o' p') :
    MS S w g C n1 n2 K c A (x :: cs) ds (es ++ [y]) (q :: a) b (d ++ [s]) k0 o0 p0 k1 o' p' (w'.setCells g es.length [ptr y]) := by
  have := h.right hlt hn hb
  rw [hq.eq.1, hq.eq.2] at this; exact this
theorem MS.same' {o' p' o'' p'' : Nat} (h : MS S w g C n1 n2 K c A (x :: cs) (y :: ds) es (q :: a) (s :: b) d k0 o0 p0 k1 o1 p1 wr) (hlt : q.1 = s.1) (hb : Below wr.heap.size wr w') (ht : RepN (fun k => S k ∧ k ≠ g) K w' t (uni q.2 s.2)) (hq : Cut1 o0 p0 o' p') (hq2 : Cut1 o1 p1 o'' p'') :
    MS S w g C n1 n2 K c A cs ds (es ++ [t]) a b (d ++ [(q.1, uni q.2 s.2)]) k0 o' p' k1 o'' p'' (w'.setCells g es.length [ptr t]) := by
  have := h.same hlt hb ht
  rw [hq.eq.1, hq.eq.2, hq2.eq.1, hq2.eq.2] at this; exact this
theorem news_br {w : World} {k o : Nat} {cs : List Nat} (h : BrAt w k o cs) : ∀ j u, (cs.map ptr)[j]? = some u → w.cell? ((⟨k, o, none⟩ : Addr).add j) = some u := by
  intro j u hj
  simp only [List.getElem?_map, Option.map_eq_some_iff] at hj
  obtain ⟨c, hc, rfl⟩ := hj
  rw [Addr.add_lit]; exact h j c hc
theorem MS.fin (h : MS S w g C n1 n2 K c A cs ds es a b d k0 o0 p0 k1 o1 p1 wr) (he : a = [] ∨ b = []) (hA : A ≠ []) (hC : C ≤ maxLen) (hS : Open S w) (hn1 : n1 ≤ K) (hn2 : n2 ≤ K) :
    RowAt S ((wr.setCells g es.length (cs.map ptr)).setCells g (es.length + cs.length) (ds.map ptr)) (.slice (some ⟨g, 0, none⟩) (es.length + cs.length + ds.length) C) (es ++ cs ++ ds) ∧ Kids S K ((wr.setCells g es.length (cs.map ptr)).setCells g (es.length + cs.length) (ds.map ptr)) (es ++ cs ++ ds) A ∧ Below w.heap.size w ((wr.setCells g es.length (cs.map ptr)).setCells g (es.length + cs.length) (ds.map ptr)) := by
  have hcap := h.cap
  have b1 : But g wr (wr.setCells g es.length (cs.map ptr)) := but_setCells g _ _ _
  have b2 : But g (wr.setCells g es.length (cs.map ptr)) ((wr.setCells g es.length (cs.map ptr)).setCells g (es.length + cs.length) (ds.map ptr)) := but_setCells g _ _ _
  have hb1 := h.bo.put cs (by omega)
  have hb2 := hb1.put ds (by simp; omega)
  rw [List.length_append] at hb2
  have hk := ((h.qd.append (h.q0.fuel hn1)).append (h.q1.fuel hn2)).but (b1.trans b2)
  have hda : d ++ a ++ b = A := by
    rw [← h.eq]
    rcases he with rfl | rfl
    · rw [nil_mg]; simp
    · rw [mg_nil]; simp
  rw [hda] at hk
  refine ⟨.inr ⟨g, 0, C, hS g h.hg.1, by simp [Nat.add_assoc], by simp; omega, hC, hb2.br, fun e0 => ?_⟩, hk.weaken fun k h1 _ => h1.1, h.bow (b1.trans b2)⟩
  have := hk.1
  rw [e0] at this
  exact hA (List.length_eq_zero_iff.mp this.symm)
end

set_option maxRecDepth 100000 in
set_option maxHeartbeats 1000000 in
theorem merged_main {S : Nat → Prop} {w : World} {n1 n2 K k0 o0 p0 k1 o1 p1 : Nat} {c : List UInt8} {cs ds : List Nat} {a b : List (Grp Plc)} (hS : Open S w)
    (h0 : Lst w.heap.size w k0 o0 p0 cs) (h1 : Lst w.heap.size w k1 o1 p1 ds) (q0 : Kids S n1 w cs a) (q1 : Kids S n2 w ds b) (hcs : cs ≠ []) (hds : ds ≠ []) (g0 : GP c a) (g1 : GP c b) (hc : c.length ≤ 64) (hn1 : n1 ≤ K) (hn2 : n2 ≤ K) (hm : (flatG a).length + (flatG b).length ≤ 1000000) (hl0 : cs.length ≤ 256) (hl1 : ds.length ≤ 256)
    (hU : ∀ (S' : Nat → Prop) (w1 : World) (t u : Nat) (p q : List KV), Open S' w1 → RepN S' n1 w1 t p → RepN S' n2 w1 u q → p.length + q.length ≤ 1000000 → (∃ z : UInt8, (∀ e ∈ p, ∃ r, e.1 = c ++ z :: r) ∧ ∀ e ∈ q, ∃ r, e.1 = c ++ z :: r) → Calls Try.prog 53 #[.pointer (some ⟨t, 0, none⟩), .pointer (some ⟨u, 0, none⟩)] w1 fun e w' => ∃ t', e = .returned (.pointer (some ⟨t', 0, none⟩)) ∧ RepN S' K w' t' (uni p q) ∧ Below w1.heap.size w1 w') :
    Calls Try.prog 91 #[.slice (some ⟨k0, o0, none⟩) cs.length p0, .slice (some ⟨k1, o1, none⟩) ds.length p1, .int .i64 c.length] w fun e w' => ∃ bv es, e = .returned bv ∧ RowAt S w' bv es ∧ Kids S K w' es (mg a b) ∧ Below w.heap.size w w' := by
  obtain ⟨i0, hi0, hz0, hz1, hz2⟩ := info_parts infoP
  obtain ⟨w0, hmk, hown0, hgrow0⟩ := run_make_own (P := Try.prog) w w.heap.size 101 93 i0 (.pointer none) 1 Try.underlying101 hi0 hz0 hz1 .i64 .i64 (cs.length + ds.length) (by rw [hz2]; omega) (by unfold maxLen; omega) (Nat.le_refl _)
  have hb0 : Below w.heap.size w w0 := Below.grown (Below.refl _ _) hgrow0 (Nat.le_refl _) (fun _ h => by cases h)
  obtain ⟨g, hg⟩ : ∃ g, w.heap.size = g := ⟨_, rfl⟩
  obtain ⟨C, hC⟩ : ∃ C, cs.length + ds.length = C := ⟨_, rfl⟩
  have hsl : 0 < cs.length ∧ 0 < ds.length := ⟨List.length_pos_iff.mpr hcs, List.length_pos_iff.mpr hds⟩
  have HM : Hid (MS S w g C n1 n2 K c (mg a b) cs ds [] a b [] k0 o0 p0 k1 o1 p1 w0) := by
    have hBo := Both.of hown0
    rw [hg, hC] at hBo
    rw [hg] at h0 h1
    refine ⟨h0.on hb0, h1.on hb0, (q0.weaken fun k h1 h2 => ⟨h1, by omega⟩).on hb0, (q1.weaken fun k h1 h2 => ⟨h1, by omega⟩).on hb0, Kids.nil, hBo, by simp; omega, rfl, g0, g1, hm, hb0, by omega, ?_⟩
    obtain ⟨u, hu⟩ := Option.isSome_iff_exists.1 (hBo.room 0 (by omega)).1
    exact World.block_lt_of_cell? _ _ hu
  rw [hg, hC] at hmk
  have ec : (C : Int) = (cs.length : Int) + (ds.length : Int) := by omega
  rw [ec] at hmk
  have hwr : IntKind.i64.wrap ((cs.length : Int) + (ds.length : Int)) = (cs.length : Int) + (ds.length : Int) := by rw [IntKind.wrap_i64]; omega
  have hp0 : ((cs.length : Int) == 0) = false := by simp; omega
  have hp1 : ((ds.length : Int) == 0) = false := by simp; omega
  have HU : Hid (∀ (S' : Nat → Prop) (w1 : World) (t u : Nat) (p q : List KV), Open S' w1 → RepN S' n1 w1 t p → RepN S' n2 w1 u q → p.length + q.length ≤ 1000000 → (∃ z : UInt8, (∀ e ∈ p, ∃ r, e.1 = c ++ z :: r) ∧ ∀ e ∈ q, ∃ r, e.1 = c ++ z :: r) → Calls Try.prog 53 #[.pointer (some ⟨t, 0, none⟩), .pointer (some ⟨u, 0, none⟩)] w1 fun e w' => ∃ t', e = .returned (.pointer (some ⟨t', 0, none⟩)) ∧ RepN S' K w' t' (uni p q) ∧ Below w1.heap.size w1 w') := hU
  have HS : Hid (Open S w) := hS
  clear h0 h1 q0 q1 g0 g1 hm hU hS hown0 hgrow0 hb0 ec hcs hds
  have HA0 : Hid (mg a b ≠ []) := fun e0 => by
    have h5 := (mg_all _ (Nat.le_refl _) HM.out.g0 HM.out.g1).2.2.2.1
    rw [e0] at h5
    have h6 := HM.out.q0.1
    simp at h5
    have h7 := hsl.1
    rw [h6, h5] at h7; simp at h7
  generalize hA : mg a b = A at *
  have HA : Hid (A ≠ []) := HA0
  have hCm : C ≤ maxLen := by unfold maxLen; omega
  clear hA HA0
  go_enter Try.func91, Try.ntmps91
  go_wp2_with fail
  clear hmk hwr hp0 hp1
  go_loopg [0, 1, 7] (cs.length + ds.length) (fun gk s0 s1 s7 wr => ∃ (cs ds es : List Nat) (a b d : List (Grp Plc)) (k0 o0 p0 k1 o1 p1 : Nat), gk = cs.length + ds.length ∧ cs.length ≤ 256 ∧ ds.length ≤ 256 ∧ s0 = .slice (some ⟨k0, o0, none⟩) cs.length p0 ∧ s1 = .slice (some ⟨k1, o1, none⟩) ds.length p1 ∧ s7 = .slice (some ⟨g, 0, none⟩) es.length C ∧ Hid (MS S w g C n1 n2 K c A cs ds es a b d k0 o0 p0 k1 o1 p1 wr))
  case atStart => exact ⟨cs, ds, [], a, b, [], k0, o0, p0, k1, o1, p1, rfl, hl0, hl1, rfl, rfl, rfl, HM.out⟩
  case round =>
    clear HM hsl hC hl0 hl1
    obtain ⟨xs, ys, es, a1, b1, d, k2, o2, p2, k3, o3, p3, rfl, hl2, hl3, rfl, rfl, rfl, HM⟩ := hrel
    match xs, ys, a1, b1, HM, hl2, hl3 with
    | [], ys, a1, b1, HM, hl2, hl3 =>
      have hE : a1 = [] := List.length_eq_zero_iff.mp (by have := HM.out.q0.1; simpa using this.symm)
      have hcap := HM.out.cap
      have HF : Hid _ := HM.out.fin (.inl hE) HA.out hCm HS.out hn1 hn2
      simp only [List.length_nil, Nat.add_zero, List.map_nil, List.append_nil] at HF hcap ⊢
      have HF' := HF
      clear hE
      go_wp2_with (first
        | (at_builtin; refine wpList_append_room rfl _ _ _ rfl 93 i0 Try.underlying101 hi0 hz1 g es.length C rfl ⟨k2, o2, none⟩ 0 p2 [] rfl rfl (fun j u h => by simp at h) (fun u h => by simp at h) (by omega) HM.out.bo.room ?_)
        | (at_builtin; refine wpList_append_room rfl _ _ _ rfl 93 i0 Try.underlying101 hi0 hz1 g es.length C rfl ⟨k3, o3, none⟩ ys.length p3 (ys.map ptr) rfl (by simp) (news_br HM.out.l1.br) (one_ptr _) (by omega) HM.out.bo.room ?_))
      go_ret
      exact ⟨_, es ++ ys, rfl, HF'.out.1, HF'.out.2.1, HF'.out.2.2⟩
    | x :: xs, [], a1, b1, HM, hl2, hl3 =>
      have hE : b1 = [] := List.length_eq_zero_iff.mp (by have := HM.out.q1.1; simpa using this.symm)
      have hcap := HM.out.cap
      have HF : Hid _ := HM.out.fin (.inr hE) HA.out hCm HS.out hn1 hn2
      obtain ⟨zs, hzs⟩ : ∃ zs, x :: xs = zs := ⟨_, rfl⟩
      rw [hzs] at HF HM hcap hl2 ⊢
      have hzl0 : zs.length = xs.length + 1 := by rw [← hzs]; rfl
      have hzl : (0 : Int) < (zs.length : Int) := by omega
      clear hzl0
      clear hzs
      simp only [List.length_nil, Nat.add_zero, List.map_nil, List.append_nil] at HF hcap ⊢
      have HF' := HF
      clear hE
      go_wp2_with (first
        | (at_builtin; refine wpList_append_room rfl _ _ _ rfl 93 i0 Try.underlying101 hi0 hz1 g es.length C rfl ⟨k2, o2, none⟩ zs.length p2 (zs.map ptr) rfl (by simp) (news_br HM.out.l0.br) (one_ptr _) (by omega) HM.out.bo.room ?_)
        | (at_builtin; refine wpList_append_room rfl _ _ _ rfl 93 i0 Try.underlying101 hi0 hz1 g (es.length + zs.length) C rfl ⟨k3, o3, none⟩ 0 p3 [] rfl rfl (fun j u h => by simp at h) (fun u h => by simp at h) (by omega) (HM.out.bo.put zs (by omega)).room ?_))
      go_ret
      exact ⟨_, es ++ zs, rfl, HF'.out.1, HF'.out.2.1, HF'.out.2.2⟩
    | x :: xs, y :: ys, [], b1, HM, _, _ => exact absurd HM.out.q0.1 (by simp)
    | x :: xs, y :: ys, q :: a1, [], HM, _, _ => exact absurd HM.out.q1.1 (by simp)
    | x :: xs, y :: ys, q :: a1, s :: b1, HM, hl2, hl3 =>
      obtain ⟨px, hpx, hpxs, hpx1, hpx2⟩ := HM.out.q0.head.byte (HM.out.g0.each q List.mem_cons_self).2.2
      obtain ⟨py, hpy, hpys, hpy1, hpy2⟩ := HM.out.q1.head.byte (HM.out.g1.each s List.mem_cons_self).2.2
      have cx := HM.out.l0.br 0 x rfl
      have cy := HM.out.l1.br 0 y rfl
      have hfx := HM.out.l0.fits
      have hfy := HM.out.l1.fits
      have hmx := HM.out.l0.most
      have hmy := HM.out.l1.most
      unfold maxLen at hmx hmy
      rw [Nat.add_zero] at cx cy
      simp only [List.length_cons] at hl2 hl3 hfx hfy ⊢
      have hx0 : (0 : Int) < (xs.length : Int) + 1 := by omega
      have hy0 : (0 : Int) < (ys.length : Int) + 1 := by omega
      have hx1 : (1 : Int) ≤ (xs.length : Int) + 1 := by omega
      have hy1 : (1 : Int) ≤ (ys.length : Int) + 1 := by omega
      have hx2 : (xs.length : Int) + 1 ≤ (p2 : Int) := by omega
      have hy2 : (ys.length : Int) + 1 ≤ (p3 : Int) := by omega
      have hroom : es.length + 1 ≤ C := by have := HM.out.cap; simp at this; omega
      have hk2 := HM.out.l0.ne
      have hk3 := HM.out.l1.ne
      have HX : Hid (∀ w' vs, Below wr.heap.size wr w' → (w'.setCells g es.length vs).cell? ⟨k2, o2, none⟩ = some (.pointer (some ⟨x, 0, none⟩)) ∧ (w'.setCells g es.length vs).cell? ⟨k3, o3, none⟩ = some (.pointer (some ⟨y, 0, none⟩))) := fun w' vs hb => ⟨(World.cell?_setCells_out g _ _ _ _ (fun e _ => absurd e hk2)).trans (cell_later hb cx), (World.cell?_setCells_out g _ _ _ _ (fun e _ => absurd e hk3)).trans (cell_later hb cy)⟩
      have HB : Hid (∀ n o, Below wr.heap.size wr ((wr.drewN n).alloc o)) := fun n o => (below_drewN'' (Below.refl _ _) _).alloc (Nat.le_refl _) _
      clear hk2 hk3
      rcases u8_tri q.1 s.1 with hlt | heq | hgt
      · have hcmp := cmpByte_lt hlt
        go_wp2_with fail
        go_quiet ((go_at_call 100; exact Calls.quiet_of_same (compareByte_any _ _ _)))
        go_wp2_with fail
        go_region_held3 (fun w' => w'.cell? ⟨k2, o2, none⟩ = some (.pointer (some ⟨x, 0, none⟩))) (first | exact cx | exact cell_later (((Below.refl _ _).alloc (Nat.le_refl _) _).drew) cx | exact (HX.out _ _ (HB.out _ _)).1 | go_keep)
          (first | (refine step_append_room (by rfl) (.tmp 65) (.tmp 69) 101 ?_ 93 i0 Try.underlying101 hi0 hz1 g es.length C (by rfl) ⟨wr.heap.size, 0, none⟩ 1 1 [ptr x] (by rfl) (by rfl) (World.news_of_block (cs := #[ptr x]) (t := 93) (fr := (0, 0)) (heap_alloc_new wr _)) (by simp [Value.oneCell', ptr]) hroom ?_ ?_; rfl; exact (HM.out.bo.on (((Below.refl _ _).alloc (Nat.le_refl _) _).drew)).room))
        go_wp2_with fail
        all_goals
          go_roundg (xs.length + (ys.length + 1))
          case measure => omega
          case rel =>
            refine ⟨xs, y :: ys, es ++ [x], a1, s :: b1, d ++ [q], k2, _, _, k3, o3, p3, by simp, by omega, by simpa using hl3, rfl, by simp, by simp, ?_⟩
            exact HM.out.left' hlt hn1 (HB.out _ _) (by unfold Cut1; omega)
      · have hcmp := cmpByte_eq (congrArg UInt8.toNat heq)
        have HUn : Hid (∀ w1, Below wr.heap.size wr w1 → Calls Try.prog 53 #[.pointer (some ⟨x, 0, none⟩), .pointer (some ⟨y, 0, none⟩)] w1 fun e w' => ∃ t', e = .returned (.pointer (some ⟨t', 0, none⟩)) ∧ Hid (RepN (fun k => S k ∧ k ≠ g) K w' t' (uni q.2 s.2)) ∧ Below wr.heap.size wr w') := fun w1 hb => by
          have hsm := HM.out.sm
          rw [flat_len q a1, flat_len s b1] at hsm
          refine (HU.out (fun k => S k ∧ k ≠ g) w1 x y q.2 s.2 (fun k hk => ⟨HS.out k ?_, ?_⟩) (HM.out.q0.head.on hb) (HM.out.q1.head.on hb) (by omega) ⟨q.1, (HM.out.g0.each q List.mem_cons_self).2.2, fun e he => by rw [heq]; exact (HM.out.g1.each s List.mem_cons_self).2.2 e he⟩).mono ?_
          · have h6 := HM.out.bel.size; have h7 := hb.size; omega
          · have h6 := HM.out.hg.2; have h7 := hb.size; omega
          · rintro e w' ⟨t', rfl, h6, h7⟩
            exact ⟨t', rfl, h6, hb.trans (h7.mono hb.size)⟩
        have HC2 : Hid (∀ w', Below wr.heap.size wr w' → w'.cell? ⟨k2, o2, none⟩ = some (.pointer (some ⟨x, 0, none⟩)) ∧ w'.cell? ⟨k3, o3, none⟩ = some (.pointer (some ⟨y, 0, none⟩))) := fun w' hb => ⟨cell_later hb cx, cell_later hb cy⟩
        have HB2 : Hid (∀ w2 o, Below wr.heap.size wr w2 → Below wr.heap.size wr (w2.alloc o)) := fun w2 o h => h.alloc h.size _
        have HEq : Hid (q.1 = s.1) := heq
        clear heq
        by_cases hp2 : p2 = 1 <;> by_cases hp3 : p3 = 1
        all_goals
          go_wp2_with fail
          go_quiet ((go_at_call 100; exact Calls.quiet_of_same (compareByte_any _ _ _)))
          go_wp2_with fail
          go_region_held3 (fun w' => w'.cell? ⟨k2, o2, none⟩ = some (.pointer (some ⟨x, 0, none⟩)) ∧ w'.cell? ⟨k3, o3, none⟩ = some (.pointer (some ⟨y, 0, none⟩))) (first | exact ⟨cx, cy⟩ | exact HC2.out _ hb2 | exact HC2.out _ (HB2.out _ _ hb2) | exact HX.out _ _ (HB2.out _ _ hb2) | go_keep)
            (first
              | (go_at_call 53; refine (HUn.out _ (below_drewN'' (Below.refl _ _) _)).mono ?_; rintro e w2 ⟨t, rfl, hT, hb2⟩)
              | (refine step_append_room (by rfl) (.tmp 48) (.tmp 56) 101 ?_ 93 i0 Try.underlying101 hi0 hz1 g es.length C (by rfl) ⟨w2.heap.size, 0, none⟩ 1 1 [ptr t] (by rfl) (by rfl) (World.news_of_block (cs := #[ptr t]) (t := 93) (fr := (0, 0)) (heap_alloc_new w2 _)) (by simp [Value.oneCell', ptr]) hroom ?_ ?_; rfl; exact (HM.out.bo.on (HB2.out _ _ hb2)).room))
          go_wp2_with fail
          go_quiet (fail)
          go_wp2_with fail
          go_roundg (xs.length + ys.length)
          case measure => simp only [List.length_cons]; omega
          case rel =>
            refine ⟨xs, ys, es ++ [t], a1, b1, d ++ [(q.1, uni q.2 s.2)], k2, _, _, k3, _, _, rfl, by omega, by omega, rfl, rfl, by simp, ?_⟩
            exact (HM.out.same' HEq.out (HB2.out _ _ hb2) (hT.out.on ((Below.refl _ _).alloc (Nat.le_refl _) _)) (by unfold Cut1; omega) (by unfold Cut1; omega)).on (below_drewN'' (Below.refl _ _) _)
      · have hcmp := cmpByte_gt hgt
        go_wp2_with fail
        go_quiet ((go_at_call 100; exact Calls.quiet_of_same (compareByte_any _ _ _)))
        go_wp2_with fail
        go_region_held3 (fun w' => w'.cell? ⟨k3, o3, none⟩ = some (.pointer (some ⟨y, 0, none⟩))) (first | exact cy | exact cell_later (((Below.refl _ _).alloc (Nat.le_refl _) _).drew) cy | exact (HX.out _ _ (HB.out _ _)).2 | go_keep)
          (first | (refine step_append_room (by rfl) (.tmp 76) (.tmp 80) 101 ?_ 93 i0 Try.underlying101 hi0 hz1 g es.length C (by rfl) ⟨wr.heap.size, 0, none⟩ 1 1 [ptr y] (by rfl) (by rfl) (World.news_of_block (cs := #[ptr y]) (t := 93) (fr := (0, 0)) (heap_alloc_new wr _)) (by simp [Value.oneCell', ptr]) hroom ?_ ?_; rfl; exact (HM.out.bo.on (((Below.refl _ _).alloc (Nat.le_refl _) _).drew)).room))
        go_wp2_with fail
        all_goals
          go_roundg ((xs.length + 1) + ys.length)
          case measure => omega
          case rel =>
            refine ⟨x :: xs, ys, es ++ [y], q :: a1, b1, d ++ [s], k2, o2, p2, k3, _, _, by simp, by simpa using hl2, by omega, by simp, rfl, by simp, ?_⟩
            exact HM.out.right' hgt hn2 (HB.out _ _) (by unfold Cut1; omega)

end Go.Proofs.Ytcgjppacnhmjlaa
end

section
set_option linter.unusedVariables false
set_option linter.unusedSimpArgs false
set_option linter.unusedSectionVars false
set_option linter.unusedVariables false
set_option linter.unusedSimpArgs false
namespace Go.Proofs.Ytcgjppacnhmjlaa
open Go.RowKit
attribute [local go_sem ↓] Go.wp_at_zero Go.wp_at_succ

theorem merged_none (v1 : Value) (n : Int) (w : World) :
    Calls Try.prog 91 #[.slice none 0 0, v1, .int .i64 n] w fun e w' => e = .returned v1 ∧ w' = w := by
  go_enter Try.func91, Try.ntmps91
  go_wp2
  go_ret
  exact ⟨rfl, rfl⟩
theorem merged_less (ad : Addr) (len cap : Nat) (n : Int) (w : World) (h : 0 < len) (hl : len ≤ 256) :
    Calls Try.prog 91 #[.slice (some ad) len cap, .slice none 0 0, .int .i64 n] w fun e w' => e = .returned (.slice (some ad) len cap) ∧ w' = w := by
  have hp0 : ((len : Int) == 0) = false := by simp; omega
  go_enter Try.func91, Try.ntmps91
  go_wp2
  go_ret
  exact ⟨rfl, rfl⟩
theorem GP.len {p : List UInt8} {a : List (Grp Plc)} (h : GP p a) : a.length ≤ 256 := by
  have := pw_len (List.pairwise_map.mpr h.pw : (a.map (·.1)).Pairwise (· < ·))
  simpa using this
/-- The list of the groups of both. -/
theorem merged_any {S : Nat → Prop} {w : World} {n1 n2 K : Nat} {c : List UInt8} {v0 v1 : Value} {cs ds : List Nat} {a b : List (Grp Plc)} (hS : Open S w)
    (h0 : RowAt S w v0 cs) (h1 : RowAt S w v1 ds) (q0 : Kids S n1 w cs a) (q1 : Kids S n2 w ds b) (g0 : GP c a) (g1 : GP c b) (hc : c.length ≤ 64) (hn1 : n1 ≤ K) (hn2 : n2 ≤ K) (hm : (flatG a).length + (flatG b).length ≤ 1000000)
    (hU : ∀ (S' : Nat → Prop) (w1 : World) (t u : Nat) (p q : List KV), Open S' w1 → RepN S' n1 w1 t p → RepN S' n2 w1 u q → p.length + q.length ≤ 1000000 → (∃ z : UInt8, (∀ e ∈ p, ∃ r, e.1 = c ++ z :: r) ∧ ∀ e ∈ q, ∃ r, e.1 = c ++ z :: r) → Calls Try.prog 53 #[.pointer (some ⟨t, 0, none⟩), .pointer (some ⟨u, 0, none⟩)] w1 fun e w' => ∃ t', e = .returned (.pointer (some ⟨t', 0, none⟩)) ∧ RepN S' K w' t' (uni p q) ∧ Below w1.heap.size w1 w') :
    Calls Try.prog 91 #[v0, v1, .int .i64 c.length] w fun e w' => ∃ bv es, e = .returned bv ∧ RowAt S w' bv es ∧ Kids S K w' es (mg a b) ∧ Below w.heap.size w w' := by
  have hl0 : cs.length ≤ 256 := by rw [q0.1]; exact g0.len
  have hl1 : ds.length ≤ 256 := by rw [q1.1]; exact g1.len
  rcases h0 with ⟨rfl, rfl⟩ | ⟨k0, o0, p0, i1, rfl, i3, i4, i5, i6⟩
  · have ha : a = [] := List.length_eq_zero_iff.mp (by have := q0.1; simpa using this.symm)
    subst ha
    refine (merged_none v1 c.length w).mono ?_
    rintro e w' ⟨rfl, hw⟩
    subst hw
    exact ⟨_, ds, rfl, h1, by rw [nil_mg]; exact q1.fuel hn2, Below.refl _ _⟩
  · have hpos : 0 < cs.length := List.length_pos_iff.mpr i6
    have hk0 : k0 ≠ w.heap.size := by
      obtain ⟨c0, cr, rfl⟩ := List.exists_cons_of_ne_nil i6
      have := World.block_lt_of_cell? _ _ (i5 0 c0 rfl)
      exact Nat.ne_of_lt this
    rcases h1 with ⟨rfl, rfl⟩ | ⟨k1, o1, p1, j1, rfl, j3, j4, j5, j6⟩
    · have hb : b = [] := List.length_eq_zero_iff.mp (by have := q1.1; simpa using this.symm)
      subst hb
      refine (merged_less ⟨k0, o0, none⟩ cs.length p0 c.length w hpos hl0).mono ?_
      rintro e w' ⟨rfl, hw⟩
      subst hw
      exact ⟨_, cs, rfl, .inr ⟨k0, o0, p0, i1, rfl, i3, i4, i5, i6⟩, by rw [mg_nil]; exact q0.fuel hn1, Below.refl _ _⟩
    · have hk1 : k1 ≠ w.heap.size := by
        obtain ⟨c0, cr, rfl⟩ := List.exists_cons_of_ne_nil j6
        have := World.block_lt_of_cell? _ _ (j5 0 c0 rfl)
        exact Nat.ne_of_lt this
      exact merged_main hS ⟨i3, i4, i5, hk0⟩ ⟨j3, j4, j5, hk1⟩ q0 q1 i6 j6 g0 g1 hc hn1 hn2 hm hl0 hl1 hU

end Go.Proofs.Ytcgjppacnhmjlaa
end
