/- Own texts: FxM, FxN. -/
import Derived.Test.YtcgjppacnhmjlaaFmBN

section
set_option linter.unusedVariables false
set_option linter.unusedSimpArgs false
set_option linter.unusedSectionVars false
/-! The law's own function: a turn. -/
namespace Go.Proofs.Ytcgjppacnhmjlaa.Sim
open Go Go.Conc Go.ConcN Go.Conc.Lib Go.ConcR.Gen Go.RowKit
set_option linter.unusedVariables false
set_option linter.unusedSectionVars false
set_option linter.unusedSimpArgs false

/-- Get, of what is there. -/
theorem idx_get {S : Nat → Prop} {w : World} {z : Nat} {Z : List KV} (h : IndexAt S w z Z) {key : ByteArray} (hk : key.size ≤ 64) {px py : Int} {pn : ByteArray} (hu : lk (kof key) Z = some (px, py, pn)) :
    Calls Try.prog 24 #[.pointer (some ⟨z, 0, none⟩), .string key] w fun e w' => e = .returned (.tuple #[.agg #[.int .i64 px, .int .i64 py, .string pn], .bool true]) ∧ Below w.heap.size w w' :=
  (indexGet_any h (by omega)).mono fun e w' he => ⟨by rw [he.1, show lk key.data.toList Z = some (px, py, pn) from hu]; rfl, he.2⟩
/-- Shape hangs on the pairs alone. -/
theorem idx_shape {Z : List KV} {c : Nat → Nat} {g : Nat} (hc : ShapeL Z c g) {S : Nat → Prop} {w : World} {z : Nat} (h : IndexAt S w z Z) :
    Calls Try.prog 22 #[.pointer (some ⟨z, 0, none⟩)] w fun e w' => e = .returned (.agg #[.int .i64 (c 0), .int .i64 (c 1), .int .i64 (c 2), .int .i64 (c 3), .int .i64 (c 4), .int .i64 g]) ∧ Below w.heap.size w w' := by
  obtain ⟨c', g', hs, hcall⟩ := indexShape_any h
  obtain ⟨rfl, rfl⟩ := hs.uniq hc
  exact hcall
theorem idx_shapeL {S : Nat → Prop} {w : World} {z : Nat} {Z : List KV} (h : IndexAt S w z Z) : ∃ c g, ShapeL Z c g := by
  obtain ⟨c', g', hs, _⟩ := indexShape_any h
  exact ⟨c', g', hs⟩

section
variable {O : Nat → Prop} {w0 : World} {ss : List ByteArray} {xb yb : Nat} {la : Option Addr} {Pb lc n cap : Nat} {vs : List Value} {pss : List (List PP)} {Ly : List KV} {R : BR} {w : World} {Post : Value → World → Prop}
  {x y q : Nat → Value} {v0 v1 v6 v7 v8 v9 v15 v16 v17 v18 v19 v20 v21 v22 v23 : Value} {c : Nat → Nat} {g : Nat}
set_option maxRecDepth 100000 in
theorem un7 : unmA (z7 x v0 v1 v9 v15) (t7 y v6 v7 v8 v16 v17 v18 v19 v20 v21 v22 v23) = T7 x y v0 v1 v6 v7 v8 v9 v15 v16 v17 v18 v19 v20 v21 v22 v23 := by kernel_rfl
set_option maxRecDepth 100000 in
theorem MFg.pc7 {cd : Code} {k : List Item} {Q : Exit → Act → World → Prop} {St : Act → World → Prop} (hok : okCode Try.prog mfs true [103] cd = true) (hz : noCode ((z7 x v0 v1 v9 v15).map (·.1)) cd = true) (hK : Known Xm O R w) (ha : AVR Xm.G R (t7 y v6 v7 v8 v16 v17 v18 v19 v20 v21 v22 v23) (t7 y v6 v7 v8 v16 v17 v18 v19 v20 v21 v22 v23))
    (hp : ∀ a w tp d, St a w → St a (Sim.re w tp d)) (hQ : ∀ e a' w', Q e a' w' → e = .normal ∧ St a' w') (hc : ∀ tp, cd.wp Try.prog Q ⟨t7 y v6 v7 v8 v16 v17 v18 v19 v20 v21 v22 v23, []⟩ (Sim.re w tp 0))
    (hn : ∀ tm' w' R', St ⟨tm', []⟩ w' → Known Xm O R' w' → AVR Xm.G R' tm' tm' → BR.Sub R R' → MFg Try.prog Post O (G6 (unmA (z7 x v0 v1 v9 v15) tm') k) w') : MFg Try.prog Post O (G6 (T7 x y v0 v1 v6 v7 v8 v9 v15 v16 v17 v18 v19 v20 v21 v22 v23) (.code cd :: k)) w :=
  MFg.codez (g := G6 (T7 x y v0 v1 v6 v7 v8 v9 v15 v16 v17 v18 v19 v20 v21 v22 v23) (.code cd :: k)) (c := cd) (k := k) (z := z7 x v0 v1 v9 v15) (tm := t7 y v6 v7 v8 v16 v17 v18 v19 v20 v21 v22 v23) (Q := Q) (St := St) (by kernel_rfl) (by kernel_rfl) ⟨_, Try.func6⟩ hok hz hK ha hp hQ hc fun tm' w' R' a b c d _ => MFg.eqv (g' := G6 (unmA (z7 x v0 v1 v9 v15) tm') k) (by kernel_rfl) (hn tm' w' R' a b c d)
theorem P2.vl (h : P2 O w0 ss xb yb la Pb vs pss Ly R w) : VR Xm.G R (.slice la n lc) (.slice la n lc) := by
  cases la with
  | none => exact .snil _ _
  | some a => exact .slice _ _ ⟨(h.kl a rfl).1, rfl, rfl⟩

set_option maxRecDepth 100000 in
theorem m_28 (h : P2 O w0 ss xb yb la Pb vs pss (puts (prs ss) []) R w) (hc : ShapeL (puts (prs ss) []) c g) (h6 : VR Xm.G R v6 v6) (h8 : VR Xm.G R v8 v8) (h16 : VR Xm.G R v16 v16) (h17 : VR Xm.G R v17 v17) (h18 : VR Xm.G R v18 v18) (h19 : VR Xm.G R v19 v19) (h20 : VR Xm.G R v20 v20) (h21 : VR Xm.G R v21 v21) (h22 : VR Xm.G R v22 v22) (h23 : VR Xm.G R v23 v23) (hy : ∀ k, VR Xm.G R (y k) (y k))
    (hnx : ∀ y' b R' w', P2 O w0 ss xb yb la Pb vs pss (puts (prs ss) []) R' w' → Bel w w' → (∀ k, VR Xm.G R' (y' k) (y' k)) → VR Xm.G R' (ptr b) (ptr b) → w'.heap[b]? = some (shp c g) → BR.Sub R R' → MFg Try.prog Post O (G6 (T7 x y' v0 v1 v6 (ptr xb) v8 v9 v15 v16 (ptr b) v18 v19 v20 v21 v22 v23) iB28) w') :
    MFg Try.prog Post O (G6 (T7 x y v0 v1 v6 (ptr xb) v8 v9 v15 v16 v17 v18 v19 v20 v21 v22 v23) (.code c28 :: iB28)) w := by
  refine .pc7 (St := fun a' w' => ∃ b, a'.tmps = t7 (yF a'.tmps) v6 (ptr xb) v8 v16 (ptr b) v18 v19 v20 v21 v22 v23 ∧ w'.heap[b]? = some (shp c g) ∧ Bel w w') (by kernel_rfl) (by kernel_rfl) h.known (avr7 h6 (.ptr ⟨h.vx, rfl, rfl⟩) h8 h16 h17 h18 h19 h20 h21 h22 h23 hy) (fun a w1 tp d ⟨b, h1, h2, h3⟩ => ⟨b, h1, h2, h3.re tp d⟩) (fun e a w' hh => hh) (fun tp => Code.wp_mono (fun e a w' ⟨h0, b, h1, h2, h3⟩ => ⟨h0, b, h1, h2, ⟨h3.size, h3.block, h3.os, h3.output⟩⟩) (wp28 (w := Sim.re w tp 0) (c := c) (g := g) (idx_shape hc (index_re h.x tp 0)) rfl)) fun tm' w' R' hst hK' hav hR => ?_
  obtain ⟨b, h1, h2, h3⟩ := hst
  dsimp only at h1
  have hb' : VR Xm.G R' (ptr b) (ptr b) := hav.2 17 (ptr b) (ptr b) (by rw [h1]; rfl) (by rw [h1]; rfl)
  have hy' : ∀ k, VR Xm.G R' (yF tm' k) (yF tm' k) := avr_y hav
  generalize yF tm' = y' at h1 hy'
  subst h1
  rw [un7]
  exact hnx y' b R' w' (h.on h3 hK' hR) h3 hy' hb' h2 hR
set_option maxRecDepth 100000 in
theorem m_29 (h : P2 O w0 ss xb yb la Pb vs pss (puts (prs ss) []) R w) (hc : ShapeL (puts (prs ss) []) c g) (h6 : VR Xm.G R v6 v6) (h7 : VR Xm.G R v7 v7) (h16 : VR Xm.G R v16 v16) (h17 : VR Xm.G R v17 v17) (h18 : VR Xm.G R v18 v18) (h19 : VR Xm.G R v19 v19) (h20 : VR Xm.G R v20 v20) (h21 : VR Xm.G R v21 v21) (h22 : VR Xm.G R v22 v22) (h23 : VR Xm.G R v23 v23) (hy : ∀ k, VR Xm.G R (y k) (y k))
    (hnx : ∀ y' b R' w', P2 O w0 ss xb yb la Pb vs pss (puts (prs ss) []) R' w' → Bel w w' → (∀ k, VR Xm.G R' (y' k) (y' k)) → VR Xm.G R' (ptr b) (ptr b) → w'.heap[b]? = some (shp c g) → BR.Sub R R' → MFg Try.prog Post O (G6 (T7 x y' v0 v1 v6 v7 (ptr yb) v9 v15 v16 v17 (ptr b) v19 v20 v21 v22 v23) iB29) w') :
    MFg Try.prog Post O (G6 (T7 x y v0 v1 v6 v7 (ptr yb) v9 v15 v16 v17 v18 v19 v20 v21 v22 v23) (.code c29 :: iB29)) w := by
  refine .pc7 (St := fun a' w' => ∃ b, a'.tmps = t7 (yF a'.tmps) v6 v7 (ptr yb) v16 v17 (ptr b) v19 v20 v21 v22 v23 ∧ w'.heap[b]? = some (shp c g) ∧ Bel w w') (by kernel_rfl) (by kernel_rfl) h.known (avr7 h6 h7 (.ptr ⟨h.vy, rfl, rfl⟩) h16 h17 h18 h19 h20 h21 h22 h23 hy) (fun a w1 tp d ⟨b, h1, h2, h3⟩ => ⟨b, h1, h2, h3.re tp d⟩) (fun e a w' hh => hh) (fun tp => Code.wp_mono (fun e a w' ⟨h0, b, h1, h2, h3⟩ => ⟨h0, b, h1, h2, ⟨h3.size, h3.block, h3.os, h3.output⟩⟩) (wp29 (w := Sim.re w tp 0) (c := c) (g := g) (idx_shape hc (index_re h.y tp 0)) rfl)) fun tm' w' R' hst hK' hav hR => ?_
  obtain ⟨b, h1, h2, h3⟩ := hst
  dsimp only at h1
  have hb' : VR Xm.G R' (ptr b) (ptr b) := hav.2 18 (ptr b) (ptr b) (by rw [h1]; rfl) (by rw [h1]; rfl)
  have hy' : ∀ k, VR Xm.G R' (yF tm' k) (yF tm' k) := avr_y hav
  generalize yF tm' = y' at h1 hy'
  subst h1
  rw [un7]
  exact hnx y' b R' w' (h.on h3 hK' hR) h3 hy' hb' h2 hR
set_option maxRecDepth 100000 in
theorem m_30 {a1 a2 : Nat} (h : P2 O w0 ss xb yb la Pb vs pss (puts (prs ss) []) R w) (e1 : w.heap[a1]? = some (shp c g)) (e2 : w.heap[a2]? = some (shp c g)) (h17 : VR Xm.G R (ptr a1) (ptr a1)) (h18 : VR Xm.G R (ptr a2) (ptr a2)) (h6 : VR Xm.G R v6 v6) (h19 : VR Xm.G R v19 v19) (h20 : VR Xm.G R v20 v20) (h21 : VR Xm.G R v21 v21) (h22 : VR Xm.G R v22 v22) (h23 : VR Xm.G R v23 v23) (hy : ∀ k, VR Xm.G R (y k) (y k))
    (hnx : ∀ y' R' w', P2 O w0 ss xb yb la Pb vs pss (puts (prs ss) []) R' w' → (∀ k, VR Xm.G R' (y' k) (y' k)) → y' 121 = .bool false → BR.Sub R R' → MFg Try.prog Post O (G6 (T7 x y' v0 v1 v6 (ptr xb) (ptr yb) v9 v15 (.int .i64 0) (ptr a1) (ptr a2) v19 v20 v21 v22 v23) iB30) w') :
    MFg Try.prog Post O (G6 (T7 x y v0 v1 v6 (ptr xb) (ptr yb) v9 v15 (.int .i64 0) (ptr a1) (ptr a2) v19 v20 v21 v22 v23) (.code c30 :: iB30)) w := by
  refine .pc7 (St := fun a' w' => a'.tmps = t7 (yF a'.tmps) v6 (ptr xb) (ptr yb) (.int .i64 0) (ptr a1) (ptr a2) v19 v20 v21 v22 v23 ∧ yF a'.tmps 121 = .bool false ∧ Bel w w') (by kernel_rfl) (by kernel_rfl) h.known (avr7 h6 (.ptr ⟨h.vx, rfl, rfl⟩) (.ptr ⟨h.vy, rfl, rfl⟩) (.int _ _) h17 h18 h19 h20 h21 h22 h23 hy) (fun a w1 tp d ⟨h1, h2, h3⟩ => ⟨h1, h2, h3.re tp d⟩) (fun e a w' hh => hh) (fun tp => Code.wp_mono (fun e a w' ⟨h0, h1, h2, h3⟩ => ⟨h0, h1, h2, by rw [h3]; exact (Bel.refl w).re tp 0⟩) (wp30 (w := Sim.re w tp 0) (c := c) (g := g) e1 e2 (indexLen_any (index_re h.x tp 0)) (indexLen_any (index_re h.y tp 0)) h.low.2.2 rfl)) fun tm' w' R' hst hK' hav hR => ?_
  obtain ⟨h1, h2, h3⟩ := hst
  dsimp only at h1 h2
  have hy' : ∀ k, VR Xm.G R' (yF tm' k) (yF tm' k) := avr_y hav
  generalize yF tm' = y' at h1 h2 hy'
  subst h1
  rw [un7]
  exact hnx y' R' w' (h.on h3 hK' hR) hy' h2 hR
set_option maxRecDepth 100000 in
theorem m_35 {lb i : Nat} {s : ByteArray} {px py : Int} {pn : ByteArray} (h : P2 O w0 ss xb yb (some ⟨lb, 0, none⟩) Pb vs pss (puts (prs ss) []) R w) (hs : ss[i]? = some s) (h64 : s.size ≤ 64) (hu : lk (kof s) (puts (prs ss) []) = some (px, py, pn)) (h8 : VR Xm.G R v8 v8) (h16 : VR Xm.G R v16 v16) (h17 : VR Xm.G R v17 v17) (h18 : VR Xm.G R v18 v18) (h20 : VR Xm.G R v20 v20) (h21 : VR Xm.G R v21 v21) (h22 : VR Xm.G R v22 v22) (h23 : VR Xm.G R v23 v23) (hy : ∀ k, VR Xm.G R (y k) (y k))
    (hnx : ∀ y' b R' w', P2 O w0 ss xb yb (some ⟨lb, 0, none⟩) Pb vs pss (puts (prs ss) []) R' w' → Bel w w' → (∀ k, VR Xm.G R' (y' k) (y' k)) → VR Xm.G R' (ptr b) (ptr b) → w'.heap[b]? = some (pbox (px, py, pn)) → BR.Sub R R' → MFg Try.prog Post O (G6 (T7 x y' v0 v1 (.slice (some ⟨lb, 0, none⟩) ss.length lc) (ptr xb) v8 v9 v15 v16 v17 v18 (.int .i64 (i : Int)) (ptr b) (.bool true) v22 v23) iB35) w') :
    MFg Try.prog Post O (G6 (T7 x y v0 v1 (.slice (some ⟨lb, 0, none⟩) ss.length lc) (ptr xb) v8 v9 v15 v16 v17 v18 (.int .i64 (i : Int)) v20 v21 v22 v23) (.code c35 :: iB35)) w := by
  have hi : i < ss.length := (List.getElem?_eq_some_iff.1 hs).1
  have hcell : w.cell? ⟨lb, i, none⟩ = some (.string s) := by
    obtain ⟨k, o, e1, e2⟩ := h.keys i s hs
    cases e1
    rwa [Nat.zero_add] at e2
  refine .pc7 (St := fun a' w' => ∃ b, a'.tmps = t7 (yF a'.tmps) (.slice (some ⟨lb, 0, none⟩) ss.length lc) (ptr xb) v8 v16 v17 v18 (.int .i64 (i : Int)) (ptr b) (.bool true) v22 v23 ∧ w'.heap[b]? = some (pbox (px, py, pn)) ∧ Bel w w') (by kernel_rfl) (by kernel_rfl) h.known (avr7 h.vl (.ptr ⟨h.vx, rfl, rfl⟩) h8 h16 h17 h18 (.int _ _) h20 h21 h22 h23 hy) (fun a w1 tp d ⟨b, h1, h2, h3⟩ => ⟨b, h1, h2, h3.re tp d⟩) (fun e a w' hh => hh) (fun tp => Code.wp_mono (fun e a w' ⟨h0, b, h1, h2, h3⟩ => ⟨h0, b, h1, h2, ⟨h3.size, h3.block, h3.os, h3.output⟩⟩) (wp35 (w := Sim.re w tp 0) (n := ss.length) hcell hi (idx_get (index_re h.x tp 0) h64 hu) rfl)) fun tm' w' R' hst hK' hav hR => ?_
  obtain ⟨b, h1, h2, h3⟩ := hst
  dsimp only at h1
  have hb' : VR Xm.G R' (ptr b) (ptr b) := hav.2 20 (ptr b) (ptr b) (by rw [h1]; rfl) (by rw [h1]; rfl)
  have hy' : ∀ k, VR Xm.G R' (yF tm' k) (yF tm' k) := avr_y hav
  generalize yF tm' = y' at h1 hy'
  subst h1
  rw [un7]
  exact hnx y' b R' w' (h.on h3 hK' hR) h3 hy' hb' h2 hR
set_option maxRecDepth 100000 in
theorem m_36 {lb i : Nat} {s : ByteArray} {px py : Int} {pn : ByteArray} (h : P2 O w0 ss xb yb (some ⟨lb, 0, none⟩) Pb vs pss (puts (prs ss) []) R w) (hs : ss[i]? = some s) (h64 : s.size ≤ 64) (hu : lk (kof s) (puts (prs ss) []) = some (px, py, pn)) (h7 : VR Xm.G R v7 v7) (h16 : VR Xm.G R v16 v16) (h17 : VR Xm.G R v17 v17) (h18 : VR Xm.G R v18 v18) (h20 : VR Xm.G R v20 v20) (h21 : VR Xm.G R v21 v21) (h22 : VR Xm.G R v22 v22) (h23 : VR Xm.G R v23 v23) (hy : ∀ k, VR Xm.G R (y k) (y k))
    (hnx : ∀ y' b R' w', P2 O w0 ss xb yb (some ⟨lb, 0, none⟩) Pb vs pss (puts (prs ss) []) R' w' → Bel w w' → (∀ k, VR Xm.G R' (y' k) (y' k)) → VR Xm.G R' (ptr b) (ptr b) → w'.heap[b]? = some (pbox (px, py, pn)) → BR.Sub R R' → MFg Try.prog Post O (G6 (T7 x y' v0 v1 (.slice (some ⟨lb, 0, none⟩) ss.length lc) v7 (ptr yb) v9 v15 v16 v17 v18 (.int .i64 (i : Int)) v20 v21 (ptr b) (.bool true)) iB36) w') :
    MFg Try.prog Post O (G6 (T7 x y v0 v1 (.slice (some ⟨lb, 0, none⟩) ss.length lc) v7 (ptr yb) v9 v15 v16 v17 v18 (.int .i64 (i : Int)) v20 v21 v22 v23) (.code c36 :: iB36)) w := by
  have hi : i < ss.length := (List.getElem?_eq_some_iff.1 hs).1
  have hcell : w.cell? ⟨lb, i, none⟩ = some (.string s) := by
    obtain ⟨k, o, e1, e2⟩ := h.keys i s hs
    cases e1
    rwa [Nat.zero_add] at e2
  refine .pc7 (St := fun a' w' => ∃ b, a'.tmps = t7 (yF a'.tmps) (.slice (some ⟨lb, 0, none⟩) ss.length lc) v7 (ptr yb) v16 v17 v18 (.int .i64 (i : Int)) v20 v21 (ptr b) (.bool true) ∧ w'.heap[b]? = some (pbox (px, py, pn)) ∧ Bel w w') (by kernel_rfl) (by kernel_rfl) h.known (avr7 h.vl h7 (.ptr ⟨h.vy, rfl, rfl⟩) h16 h17 h18 (.int _ _) h20 h21 h22 h23 hy) (fun a w1 tp d ⟨b, h1, h2, h3⟩ => ⟨b, h1, h2, h3.re tp d⟩) (fun e a w' hh => hh) (fun tp => Code.wp_mono (fun e a w' ⟨h0, b, h1, h2, h3⟩ => ⟨h0, b, h1, h2, ⟨h3.size, h3.block, h3.os, h3.output⟩⟩) (wp36 (w := Sim.re w tp 0) (n := ss.length) hcell hi (idx_get (index_re h.y tp 0) h64 hu) rfl)) fun tm' w' R' hst hK' hav hR => ?_
  obtain ⟨b, h1, h2, h3⟩ := hst
  dsimp only at h1
  have hb' : VR Xm.G R' (ptr b) (ptr b) := hav.2 22 (ptr b) (ptr b) (by rw [h1]; rfl) (by rw [h1]; rfl)
  have hy' : ∀ k, VR Xm.G R' (yF tm' k) (yF tm' k) := avr_y hav
  generalize yF tm' = y' at h1 hy'
  subst h1
  rw [un7]
  exact hnx y' b R' w' (h.on h3 hK' hR) h3 hy' hb' h2 hR
set_option maxRecDepth 100000 in
theorem m_37 {a1 a2 : Nat} {px py : Int} {pn : ByteArray} (h : P2 O w0 ss xb yb la Pb vs pss (puts (prs ss) []) R w) (e1 : w.heap[a1]? = some (pbox (px, py, pn))) (e2 : w.heap[a2]? = some (pbox (px, py, pn))) (h20 : VR Xm.G R (ptr a1) (ptr a1)) (h22 : VR Xm.G R (ptr a2) (ptr a2)) (h6 : VR Xm.G R v6 v6) (h7 : VR Xm.G R v7 v7) (h8 : VR Xm.G R v8 v8) (h16 : VR Xm.G R v16 v16) (h17 : VR Xm.G R v17 v17) (h18 : VR Xm.G R v18 v18) (h19 : VR Xm.G R v19 v19) (hy : ∀ k, VR Xm.G R (y k) (y k))
    (hnx : ∀ y' R' w', P2 O w0 ss xb yb la Pb vs pss (puts (prs ss) []) R' w' → (∀ k, VR Xm.G R' (y' k) (y' k)) → y' 156 = .bool false → BR.Sub R R' → MFg Try.prog Post O (G6 (T7 x y' v0 v1 v6 v7 v8 v9 v15 v16 v17 v18 v19 (ptr a1) (.bool true) (ptr a2) (.bool true)) iB37) w') :
    MFg Try.prog Post O (G6 (T7 x y v0 v1 v6 v7 v8 v9 v15 v16 v17 v18 v19 (ptr a1) (.bool true) (ptr a2) (.bool true)) (.code c37 :: iB37)) w := by
  refine .pc7 (St := fun a' w' => a'.tmps = t7 (yF a'.tmps) v6 v7 v8 v16 v17 v18 v19 (ptr a1) (.bool true) (ptr a2) (.bool true) ∧ yF a'.tmps 156 = .bool false ∧ Bel w w') (by kernel_rfl) (by kernel_rfl) h.known (avr7 h6 h7 h8 h16 h17 h18 h19 h20 (.bool _) h22 (.bool _) hy) (fun a w1 tp d ⟨h1, h2, h3⟩ => ⟨h1, h2, h3.re tp d⟩) (fun e a w' hh => hh) (fun tp => Code.wp_mono (fun e a w' ⟨h0, h1, h2, h3⟩ => ⟨h0, h1, h2, by rw [h3]; exact (Bel.refl w).re tp 0⟩) (wp37 (w := Sim.re w tp 0) e1 e2 rfl)) fun tm' w' R' hst hK' hav hR => ?_
  obtain ⟨h1, h2, h3⟩ := hst
  dsimp only at h1 h2
  have hy' : ∀ k, VR Xm.G R' (yF tm' k) (yF tm' k) := avr_y hav
  generalize yF tm' = y' at h1 h2 hy'
  subst h1
  rw [un7]
  exact hnx y' R' w' (h.on h3 hK' hR) hy' h2 hR
end
end Go.Proofs.Ytcgjppacnhmjlaa.Sim
end

section
set_option linter.unusedVariables false
set_option linter.unusedSimpArgs false
set_option linter.unusedSectionVars false
/-! The law's own function, whole. -/
namespace Go.Proofs.Ytcgjppacnhmjlaa.Sim
open Go Go.Conc Go.ConcN Go.Conc.Lib Go.ConcR.Gen Go.RowKit
set_option linter.unusedVariables false
set_option linter.unusedSectionVars false
set_option linter.unusedSimpArgs false

/-- Goroutine 0's last step. -/
theorem MFg.fin {P : Program} {Post : Value → World → Prop} {O : Nat → Prop} {g : Goroutine} {w : World} (hrun : g.status = .running) (h : ∀ tp d, ∃ v, stepG P true g (Sim.re w tp d) = .ended (.done v) (Sim.re w tp d) #[] ∧ Post v (Sim.re w tp d)) : MFg P Post O g w := by
  intro tp d gs sl t q h0 hL hP
  exact beside_ends (D := fun _ _ _ => False) (Shun := ShunO O) (B := w.heap.size) (n := 0) (fun _ _ _ x => x.elim) h0 hL hP.past (fun w1 h1 => by
    obtain ⟨d', rfl⟩ := h1
    rw [at_re]
    obtain ⟨v, h2, h3⟩ := h tp d'
    exact ⟨hrun, v, #[], h2, fun e he => by simp at he, h3⟩)
/-- The first machine. -/
theorem MFg.first {P : Program} {Post : Value → World → Prop} {g : Goroutine} {W : World} (h : MFg P Post (fun _ => False) g W) : Fin P Post (crowd #[g] W none) #[] := by
  have := h W.tape W.drawn #[g] none #[] (fun _ => 0) rfl (leavers_one P g) ⟨⟨past_nil.clean, fun i a ha => by simp [touchAt, Trace.act?] at ha, past_nil.over, rfl, by simp⟩, fun i op x ho => by simp at ho, by simp, by simp⟩
  rwa [re_self] at this
theorem known_none {W : World} (h : Try.prog.globals.size ≤ W.heap.size) : Known Xm (fun _ => False) (fun _ _ => False) W :=
  ⟨fun a b h => h.elim, ⟨⟨fun a b b' h => h.elim, fun a a' b h => h.elim, fun a b h => h.elim⟩, ⟨h, h⟩, fun a i h => h.elim, fun a b h => h.elim⟩, fun a h => h.elim, fun a h => h.elim⟩

section
variable {O : Nat → Prop} {w0 : World} {ss : List ByteArray} {xb yb : Nat} {la : Option Addr} {Pb lc cap : Nat} {vs : List Value} {pss : List (List PP)} {Post : Value → World → Prop} {v0 v1 : Value}

set_option maxRecDepth 100000 in
/-- The loop of the look-ups. -/
theorem m_gets {t : Nat} {v9 : Value} (hn : ss.length ≤ 300) (hss : ∀ s ∈ ss, s.size ≤ 64) (ht : t < 3) (hla : 0 < ss.length → ∃ lb, la = some ⟨lb, 0, none⟩)
    (hnx : ∀ x y R w v16 v17 v18 v19 v20 v21 v22 v23, P2 O w0 ss xb yb la Pb vs pss (puts (prs ss) []) R w → (∀ k, VR Xm.G R (y k) (y k)) → VR Xm.G R v16 v16 → VR Xm.G R v17 v17 → VR Xm.G R v18 v18 → VR Xm.G R v19 v19 → VR Xm.G R v20 v20 → VR Xm.G R v21 v21 → VR Xm.G R v22 v22 → VR Xm.G R v23 v23 →
      MFg Try.prog Post O (G6 (T7 x y v0 v1 (.slice la ss.length lc) (ptr xb) (ptr yb) v9 (.int .i64 ((t + 1 : Nat) : Int)) v16 v17 v18 v19 v20 v21 v22 v23) iT6) w) :
    ∀ (r i : Nat), r + i = ss.length → ∀ x y R w v16 v17 v18 v20 v21 v22 v23, P2 O w0 ss xb yb la Pb vs pss (puts (prs ss) []) R w → (∀ k, VR Xm.G R (y k) (y k)) → VR Xm.G R v16 v16 → VR Xm.G R v17 v17 → VR Xm.G R v18 v18 → VR Xm.G R v20 v20 → VR Xm.G R v21 v21 → VR Xm.G R v22 v22 → VR Xm.G R v23 v23 →
      MFg Try.prog Post O (G6 (T7 x y v0 v1 (.slice la ss.length lc) (ptr xb) (ptr yb) v9 (.int .i64 (t : Int)) v16 v17 v18 (.int .i64 (i : Int)) v20 v21 v22 v23) iG6) w := by
  intro r
  induction r with
  | zero =>
    intro i hi x y R w v16 v17 v18 v20 v21 v22 v23 h hy h16 h17 h18 h20 h21 h22 h23
    have ewrap : IntKind.i64.wrap ((t : Int) + 1) = ((t + 1 : Nat) : Int) := by rw [IntKind.wrap_i64]; omega
    refine .kern (n := 7) (by ((repeat (refine ⟨by kernel_rfl, fun _ => by kernel_rfl, ?_⟩)); exact True.intro)) ?_
    refine .val (i := 125) (v := .bool (decide ((i : Int) < (ss.length : Int)))) (v' := .bool false) (by kernel_rfl) (by rw [decide_eq_false (by omega)]) ?_
    refine .kern (n := 7) (by ((repeat (refine ⟨by kernel_rfl, fun _ => by kernel_rfl, ?_⟩)); exact True.intro)) ?_
    refine .val (i := 100) (v := .int .i64 (IntKind.i64.wrap ((t : Int) + 1))) (v' := .int .i64 ((t + 1 : Nat) : Int)) (by kernel_rfl) (by rw [ewrap]) ?_
    refine .kern (n := 3) (by ((repeat (refine ⟨by kernel_rfl, fun _ => by kernel_rfl, ?_⟩)); exact True.intro)) ?_
    exact .lit (tm := fun x => T7 x y v0 v1 (.slice la ss.length lc) (ptr xb) (ptr yb) v9 (.int .i64 ((t + 1 : Nat) : Int)) v16 v17 v18 (.int .i64 (i : Int)) v20 v21 v22 v23) (by kernel_rfl) fun x => hnx x y R w v16 v17 v18 _ v20 v21 v22 v23 h hy h16 h17 h18 (.int _ _) h20 h21 h22 h23
  | succ r ih =>
    intro i hi x y R w v16 v17 v18 v20 v21 v22 v23 h hy h16 h17 h18 h20 h21 h22 h23
    have ewrap : IntKind.i64.wrap ((i : Int) + 1) = ((i + 1 : Nat) : Int) := by rw [IntKind.wrap_i64]; omega
    have hlt : i < ss.length := by omega
    obtain ⟨s, hs⟩ : ∃ s, ss[i]? = some s := ⟨ss[i], List.getElem?_eq_getElem hlt⟩
    have h64 := hss s (List.mem_of_getElem? hs)
    obtain ⟨⟨px, py, pn⟩, hu⟩ := lk_prs hs
    obtain ⟨lb, rfl⟩ : ∃ lb, la = some ⟨lb, 0, none⟩ := hla (by omega)
    refine .kern (n := 7) (by ((repeat (refine ⟨by kernel_rfl, fun _ => by kernel_rfl, ?_⟩)); exact True.intro)) ?_
    refine .val (i := 125) (v := .bool (decide ((i : Int) < (ss.length : Int)))) (v' := .bool true) (by kernel_rfl) (by rw [decide_eq_true (by omega)]) ?_
    refine .kern (n := 6) (by ((repeat (refine ⟨by kernel_rfl, fun _ => by kernel_rfl, ?_⟩)); exact True.intro)) ?_
    refine .lit (tm := fun x => T7 x y v0 v1 (.slice (some ⟨lb, 0, none⟩) ss.length lc) (ptr xb) (ptr yb) v9 (.int .i64 (t : Int)) v16 v17 v18 (.int .i64 (i : Int)) v20 v21 v22 v23) (it := .code c35 :: iB35) (by kernel_rfl) fun x => ?_
    refine m_35 h hs h64 hu (.ptr ⟨h.vy, rfl, rfl⟩) h16 h17 h18 h20 h21 h22 h23 hy fun y1 b1 R1 w1 h1 hB1 hy1 hb1 e1 hR1 => ?_
    refine .kern (n := 1) (by ((repeat (refine ⟨by kernel_rfl, fun _ => by kernel_rfl, ?_⟩)); exact True.intro)) ?_
    refine .lit (tm := fun x => T7 x y1 v0 v1 (.slice (some ⟨lb, 0, none⟩) ss.length lc) (ptr xb) (ptr yb) v9 (.int .i64 (t : Int)) v16 v17 v18 (.int .i64 (i : Int)) (ptr b1) (.bool true) v22 v23) (it := .code c36 :: iB36) (by kernel_rfl) fun x => ?_
    refine m_36 h1 hs h64 hu (.ptr ⟨h1.vx, rfl, rfl⟩) (h16.mono hR1) (h17.mono hR1) (h18.mono hR1) hb1 (.bool _) (h22.mono hR1) (h23.mono hR1) hy1 fun y2 b2 R2 w2 h2 hB2 hy2 hb2 e2 hR2 => ?_
    refine .kern (n := 1) (by ((repeat (refine ⟨by kernel_rfl, fun _ => by kernel_rfl, ?_⟩)); exact True.intro)) ?_
    refine .lit (tm := fun x => T7 x y2 v0 v1 (.slice (some ⟨lb, 0, none⟩) ss.length lc) (ptr xb) (ptr yb) v9 (.int .i64 (t : Int)) v16 v17 v18 (.int .i64 (i : Int)) (ptr b1) (.bool true) (ptr b2) (.bool true)) (it := .code c37 :: iB37) (by kernel_rfl) fun x => ?_
    have hR12 := hR1.trans hR2
    refine m_37 h2 ((hB2.block b1 (Array.getElem?_eq_some_iff.1 e1).1).trans e1) e2 (hb1.mono hR2) hb2 h2.vl (.ptr ⟨h2.vx, rfl, rfl⟩) (.ptr ⟨h2.vy, rfl, rfl⟩) (h16.mono hR12) (h17.mono hR12) (h18.mono hR12) (.int _ _) hy2 fun y3 R3 w3 h3 hy3 e3 hR3 => ?_
    refine .val (i := 156) (v := y3 156) (v' := .bool false) (by kernel_rfl) e3 ?_
    refine .kern (n := 6) (by ((repeat (refine ⟨by kernel_rfl, fun _ => by kernel_rfl, ?_⟩)); exact True.intro)) ?_
    refine .val (i := 127) (v := .int .i64 (IntKind.i64.wrap ((i : Int) + 1))) (v' := .int .i64 ((i + 1 : Nat) : Int)) (by kernel_rfl) (by rw [ewrap]) ?_
    refine .kern (n := 3) (by ((repeat (refine ⟨by kernel_rfl, fun _ => by kernel_rfl, ?_⟩)); exact True.intro)) ?_
    have hR := hR12.trans hR3
    have hy4 : ∀ k, VR Xm.G R3 ((fun k => if k = 156 then .bool false else y3 k) k) ((fun k => if k = 156 then .bool false else y3 k) k) := fun k => by
      dsimp only
      split
      · exact .bool _
      · exact hy3 k
    exact .lit (tm := fun x => T7 x (fun k => if k = 156 then .bool false else y3 k) v0 v1 (.slice (some ⟨lb, 0, none⟩) ss.length lc) (ptr xb) (ptr yb) v9 (.int .i64 (t : Int)) v16 v17 v18 (.int .i64 ((i + 1 : Nat) : Int)) (ptr b1) (.bool true) (ptr b2) (.bool true)) (by kernel_rfl) fun x => ih (i + 1) (by omega) x _ R3 w3 v16 v17 v18 _ _ _ _ h3 hy4 (h16.mono hR) (h17.mono hR) (h18.mono hR) (hb1.mono (hR2.trans hR3)) (.bool _) (hb2.mono hR3) (.bool _)

noncomputable def fT (x y : Nat → Value) (v0 v1 v6 v7 v8 v9 v16 v17 v18 v19 v20 v21 v22 v23 : Value) (t : Nat) : Frame := hdF (nxtN Try.prog true 10 (setT (nxtN Try.prog true 5 (G6 (T7 x y v0 v1 v6 v7 v8 v9 (.int .i64 (t : Int)) v16 v17 v18 v19 v20 v21 v22 v23) iT6)) 98 (.bool true))).callers

set_option maxRecDepth 100000 in
/-- ████ The turns. ████ -/
theorem m_turns (hn : ss.length ≤ 300) (hss : ∀ s ∈ ss, s.size ≤ 64) (hla : 0 < ss.length → ∃ lb, la = some ⟨lb, 0, none⟩) (hpost : ∀ w, Bel w0 w → Post (.bool true) w) :
    ∀ (r t : Nat), r + t = 3 → ∀ O x y R w Ly v16 v17 v18 v19 v20 v21 v22 v23, P2 O w0 ss xb yb la Pb vs pss Ly R w → (Ly = [] ∨ Ly = puts (prs ss) []) → (∀ k, VR Xm.G R (y k) (y k)) → VR Xm.G R v16 v16 → VR Xm.G R v17 v17 → VR Xm.G R v18 v18 → VR Xm.G R v19 v19 → VR Xm.G R v20 v20 → VR Xm.G R v21 v21 → VR Xm.G R v22 v22 → VR Xm.G R v23 v23 →
      MFg Try.prog Post O (G6 (T7 x y v0 v1 (.slice la ss.length lc) (ptr xb) (ptr yb) (.slice (some ⟨Pb, 0, none⟩) vs.length cap) (.int .i64 (t : Int)) v16 v17 v18 v19 v20 v21 v22 v23) iT6) w := by
  intro r
  induction r with
  | zero =>
    intro t ht O x y R w Ly v16 v17 v18 v19 v20 v21 v22 v23 h hLy hy h16 h17 h18 h19 h20 h21 h22 h23
    refine .kern (n := 5) (by ((repeat (refine ⟨by kernel_rfl, fun _ => by kernel_rfl, ?_⟩)); exact True.intro)) ?_
    refine .val (i := 98) (v := .bool (decide ((t : Int) < 3))) (v' := .bool false) (by kernel_rfl) (by rw [decide_eq_false (by omega)]) ?_
    refine .kern (n := 8) (by ((repeat (refine ⟨by kernel_rfl, fun _ => by kernel_rfl, ?_⟩)); exact True.intro)) ?_
    exact .fin (by kernel_rfl) fun tp d => ⟨.bool true, by kernel_rfl, hpost _ (h.bel.re tp d)⟩
  | succ r ih =>
    intro t ht O x y R w Ly v16 v17 v18 v19 v20 v21 v22 v23 h hLy hy h16 h17 h18 h19 h20 h21 h22 h23
    have hlen : (puts (prs ss) []).length ≤ 300 := by
      have := (puts_len (prs ss) (l := []) List.Pairwise.nil).1
      rw [prs_len] at this
      simp at this
      omega
    have hLl : Ly.length ≤ 300 := by rcases hLy with rfl | rfl; · simp
                                     · exact hlen
    have hL : puts (prs ss) Ly = puts (prs ss) [] := by rcases hLy with rfl | rfl; · rfl
                                                        · exact puts_self _
    refine .kern (n := 5) (by ((repeat (refine ⟨by kernel_rfl, fun _ => by kernel_rfl, ?_⟩)); exact True.intro)) ?_
    refine .val (i := 98) (v := .bool (decide ((t : Int) < 3))) (v' := .bool true) (by kernel_rfl) (by rw [decide_eq_true (by omega)]) ?_
    refine .kern (n := 10) (by ((repeat (refine ⟨by kernel_rfl, fun _ => by kernel_rfl, ?_⟩)); exact True.intro)) ?_
    refine .eqv (g' := g21 yb Pb 0 vs.length cap (fT x y v0 v1 (.slice la ss.length lc) (ptr xb) (ptr yb) (.slice (some ⟨Pb, 0, none⟩) vs.length cap) v16 v17 v18 v19 v20 v21 v22 v23 t) []) (by kernel_rfl)
      (m_21 (S := fun k => k ≠ xb ∧ k ≠ yb) rfl h.known h.partsR h.vy h.y (fun k hk => ⟨fun e => hk (e ▸ h.vx), fun e => hk (e ▸ h.vy)⟩) (by rw [h.sum]; omega) fun O' R1 R2 w1 w' hLf hK2 hsub hB hI => ?_)
    have h2 := h.fill hLf hK2 hsub hB hI
    rw [hL] at h2
    have hR := hLf.sub.trans hsub
    refine .kern (n := 3) (by ((repeat (refine ⟨by kernel_rfl, fun _ => by kernel_rfl, ?_⟩)); exact True.intro)) ?_
    refine .lit (tm := fun x => T7 x y v0 v1 (.slice la ss.length lc) (ptr xb) (ptr yb) (.slice (some ⟨Pb, 0, none⟩) vs.length cap) (.int .i64 (t : Int)) (.int .i64 0) v17 v18 v19 v20 v21 v22 v23) (it := .code c28 :: iB28) (by kernel_rfl) fun x => ?_
    obtain ⟨c, g, hc⟩ := idx_shapeL h2.x
    refine m_28 h2 hc h2.vl (.ptr ⟨h2.vy, rfl, rfl⟩) (.int _ _) (h17.mono hR) (h18.mono hR) (h19.mono hR) (h20.mono hR) (h21.mono hR) (h22.mono hR) (h23.mono hR) (fun k => (hy k).mono hR) fun y3 b3 R3 w3 h3 hB3 hy3 hb3 e3 hR3 => ?_
    have hS3 := hR.trans hR3
    refine .kern (n := 1) (by ((repeat (refine ⟨by kernel_rfl, fun _ => by kernel_rfl, ?_⟩)); exact True.intro)) ?_
    refine .lit (tm := fun x => T7 x y3 v0 v1 (.slice la ss.length lc) (ptr xb) (ptr yb) (.slice (some ⟨Pb, 0, none⟩) vs.length cap) (.int .i64 (t : Int)) (.int .i64 0) (ptr b3) v18 v19 v20 v21 v22 v23) (it := .code c29 :: iB29) (by kernel_rfl) fun x => ?_
    refine m_29 h3 hc h3.vl (.ptr ⟨h3.vx, rfl, rfl⟩) (.int _ _) hb3 (h18.mono hS3) (h19.mono hS3) (h20.mono hS3) (h21.mono hS3) (h22.mono hS3) (h23.mono hS3) hy3 fun y4 b4 R4 w4 h4 hB4 hy4 hb4 e4 hR4 => ?_
    have hS4 := hS3.trans hR4
    refine .kern (n := 2) (by ((repeat (refine ⟨by kernel_rfl, fun _ => by kernel_rfl, ?_⟩)); exact True.intro)) ?_
    refine .lit (tm := fun x => T7 x y4 v0 v1 (.slice la ss.length lc) (ptr xb) (ptr yb) (.slice (some ⟨Pb, 0, none⟩) vs.length cap) (.int .i64 (t : Int)) (.int .i64 0) (ptr b3) (ptr b4) v19 v20 v21 v22 v23) (it := .code c30 :: iB30) (by kernel_rfl) fun x => ?_
    refine m_30 h4 ((hB4.block b3 (Array.getElem?_eq_some_iff.1 e3).1).trans e3) e4 (hb3.mono hR4) hb4 h4.vl (h19.mono hS4) (h20.mono hS4) (h21.mono hS4) (h22.mono hS4) (h23.mono hS4) hy4 fun y5 R5 w5 h5 hy5 e5 hR5 => ?_
    have hS5 := hS4.trans hR5
    refine .val (i := 121) (v := y5 121) (v' := .bool false) (by kernel_rfl) e5 ?_
    refine .kern (n := 8) (by ((repeat (refine ⟨by kernel_rfl, fun _ => by kernel_rfl, ?_⟩)); exact True.intro)) ?_
    have hy6 : ∀ k, VR Xm.G R5 ((fun k => if k = 121 then .bool false else y5 k) k) ((fun k => if k = 121 then .bool false else y5 k) k) := fun k => by
      dsimp only
      split
      · exact .bool _
      · exact hy5 k
    refine .lit (tm := fun x => T7 x (fun k => if k = 121 then .bool false else y5 k) v0 v1 (.slice la ss.length lc) (ptr xb) (ptr yb) (.slice (some ⟨Pb, 0, none⟩) vs.length cap) (.int .i64 (t : Int)) (.int .i64 0) (ptr b3) (ptr b4) (.int .i64 ((0 : Nat) : Int)) v20 v21 v22 v23) (it := iG6) (by kernel_rfl) fun x => ?_
    exact m_gets hn hss (by omega) hla (fun x y R w v16 v17 v18 v19 v20 v21 v22 v23 h' hy' a b c d e f g i => ih (t + 1) (by omega) O' x y R w _ v16 v17 v18 v19 v20 v21 v22 v23 h' (.inr rfl) hy' a b c d e f g i) ss.length 0 (by omega) x _ R5 w5 _ _ _ v20 v21 v22 v23 h5 hy6 (.int _ _) (hb3.mono (hR4.trans hR5)) (hb4.mono hR5) (h20.mono hS5) (h21.mono hS5) (h22.mono hS5) (h23.mono hS5)

set_option maxRecDepth 100000 in
/-- ████ The law's own function. ████ -/
theorem m_6 {W : World} {ks : List ByteArray} {is : List Int} {ao co : Option Addr} {c0 c1 : Nat} (hg : Try.prog.globals.size ≤ W.heap.size) (hks : StrO W ao ks) (hkl : ks.length ≤ 9223372036854775807) (hI : IntO W co is) (hlen : is.length ≤ 9223372036854775807) (hpost : ∀ w, Bel W w → Post (.bool true) w) :
    Fin Try.prog Post (crowd #[gIn ao co ks.length is.length c0 c1] W none) #[] := by
  have h64 : ∀ s ∈ shortOf ks, s.size ≤ 64 := fun s hs => by
    obtain ⟨q, _, rfl⟩ := List.mem_map.1 hs
    exact cut64_size q
  have hn : (shortOf ks).length ≤ 300 := by rw [shortOf_len]; omega
  refine MFg.first (m_begin (known_none hg) hks (fun _ _ h => h) hkl hI (fun _ _ h => h) hlen fun x y u S R w psv vs pss xb yb la lc h h16 hpos v10 v11 v12 v13 v14 => ?_)
  obtain ⟨Pb, cap, rfl, h2⟩ := h.turn hpos h16 h64 hn (fun b hb => hb.elim)
  refine .lit (tm := fun x => T7 x (fun _ => undef) (.slice ao ks.length c0) (.slice co is.length c1) (.slice la (shortOf ks).length lc) (ptr xb) (ptr yb) (.slice (some ⟨Pb, 0, none⟩) vs.length cap) (.int .i64 ((0 : Nat) : Int)) undef undef undef undef undef undef undef undef) (it := iT6) (by kernel_rfl) fun x => ?_
  exact m_turns hn h64 (fun hp => h.l.some hp) hpost 3 0 rfl _ x _ R w [] _ _ _ _ _ _ _ _ h2 (.inl rfl) (fun _ => .undef) .undef .undef .undef .undef .undef .undef .undef .undef
end
end Go.Proofs.Ytcgjppacnhmjlaa.Sim
end
