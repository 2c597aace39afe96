/- Own texts: FxI, FxJ. -/
import Derived.Test.YtcgjppacnhmjlaaFmBL
import Derived.Test.YtcgjppacnhmjlaaFmBC

section
set_option linter.unusedVariables false
set_option linter.unusedSimpArgs false
set_option linter.unusedSectionVars false
/-! The law's own function: the loop over the keys. -/
namespace Go.Proofs.Ytcgjppacnhmjlaa.Sim
open Go Go.Conc Go.ConcN Go.Conc.Lib Go.ConcR.Gen Go.RowKit
set_option linter.unusedVariables false
set_option linter.unusedSectionVars false
set_option linter.unusedSimpArgs false

theorem RowQ.some {Pl : Value → Prop} {w : World} {base : Nat} {e : TypeId} {size : Nat} {la : Option Addr} {m lc : Nat} {n : Nat} {xs : List Value} (h : RowQ Pl w base e size (.slice la m lc) n xs) (hn : 0 < n) : ∃ lb, la = Option.some ⟨lb, 0, none⟩ := by
  rcases h.2 with ⟨_, h⟩ | ⟨g, cap, cur, h, _⟩
  · omega
  · cases h; exact ⟨g, rfl⟩

section
variable {S O : Nat → Prop} {w0 : World} {ss : List ByteArray} {xb yb lc : Nat} {la : Option Addr} {psv pv : Value} {i j : Nat} {vs : List Value} {pss : List (List PP)} {cur : List PP} {R R0 : BR} {w : World} {s : ByteArray}
  {x y u : Nat → Value} {v0 v1 v12 v13 v14 v15 : Value} {Post : Value → World → Prop} {co : Option Addr} {c1 : Nat} {is : List Int}

set_option maxRecDepth 100000 in
/-- Behind the cuts: the next key's round. -/
theorem m_20 {b : Bool} (h : P1 S O w0 ss xb yb (.slice la ss.length lc) psv pv (i + 1) (i + 1) vs pss cur R w) (hi : i < ss.length) (hn : ss.length ≤ 300) (hvs : vs.length ≤ 15)
    (hnx : ∀ x S' R' w' psv' pv' vs' pss' cur', P1 S' O w0 ss xb yb (.slice la ss.length lc) psv' pv' (i + 1) (i + 1) vs' pss' cur' R' w' → vs'.length ≤ 15 → BR.Sub R R' →
      MFg Try.prog Post O (G6 (T6 x y u v0 v1 (.slice la ss.length lc) (ptr xb) (ptr yb) psv' pv' (.int .i64 ((i + 1 : Nat) : Int)) v12 (.bool b) v14 v15) iL6) w') :
    MFg Try.prog Post O (G6 (T6 x y u v0 v1 (.slice la ss.length lc) (ptr xb) (ptr yb) psv pv (.int .i64 (i : Int)) v12 (.bool b) v14 v15) iX6) w := by
  have ewrap : IntKind.i64.wrap ((i : Int) + 1) = ((i + 1 : Nat) : Int) := by rw [IntKind.wrap_i64]; omega
  obtain ⟨pa, pc, rfl⟩ := h.p.form
  obtain ⟨qa, qc, rfl⟩ := h.ps.form
  cases b with
  | false =>
    refine .kern (n := 15) (by ((repeat (refine ⟨by kernel_rfl, fun _ => by kernel_rfl, ?_⟩)); exact True.intro)) ?_
    refine .val (i := 44) (v := .int .i64 (IntKind.i64.wrap ((i : Int) + 1))) (v' := .int .i64 ((i + 1 : Nat) : Int)) (by kernel_rfl) (by rw [ewrap]) ?_
    refine .kern (n := 3) (by ((repeat (refine ⟨by kernel_rfl, fun _ => by kernel_rfl, ?_⟩)); exact True.intro)) ?_
    exact .lit (tm := fun x => T6 x y u v0 v1 (.slice la ss.length lc) (ptr xb) (ptr yb) (.slice qa vs.length qc) (.slice pa cur.length pc) (.int .i64 ((i + 1 : Nat) : Int)) v12 (.bool false) v14 v15) (by kernel_rfl) fun x => hnx x S R w _ _ vs pss cur h hvs (BR.Sub.refl R)
  | true =>
    refine .kern (n := 7) (by ((repeat (refine ⟨by kernel_rfl, fun _ => by kernel_rfl, ?_⟩)); exact True.intro)) ?_
    by_cases h15 : vs.length < 15
    · refine .val (i := 87) (v := .bool (decide ((vs.length : Int) < 15))) (v' := .bool true) (by kernel_rfl) (by rw [decide_eq_true (by omega)]) ?_
      refine .kern (n := 7) (by ((repeat (refine ⟨by kernel_rfl, fun _ => by kernel_rfl, ?_⟩)); exact True.intro)) ?_
      refine .op (i := 2) (U := [90]) (St := fun v w1 => v = .slice (some ⟨w.heap.size, 0, none⟩) 1 1 ∧ ∃ tp d, w1 = Sim.re (newB w (.cells #[.slice pa cur.length pc] 48)) tp d) (by kernel_rfl) ⟨by kernel_rfl, by kernel_rfl, by kernel_rfl, by kernel_rfl⟩ (by kernel_rfl) (by kernel_rfl) h.known (fun t ht => ?_) (fun tp d => ⟨_, _, by kernel_rfl, rfl, tp, d, rfl⟩) fun v w1 R2 hst hK2 hv2 hsub2 hsz2 => ?_
      · simp at ht; subst ht; exact vr_of (u := .slice pa cur.length pc) (by kernel_rfl) h.vp
      obtain ⟨rfl, tp2, d2, rfl⟩ := hst
      have hB : Bel w (Sim.re (newB w (.cells #[.slice pa cur.length pc] 48)) tp2 d2) := ⟨hsz2, fun b hb => newB_old w _ hb, rfl, rfl⟩
      have h2 := h.on hB hK2 hsub2
      have hcells : ∀ (k : Nat) v, [Value.slice pa cur.length pc][k]? = some v → (Sim.re (newB w (.cells #[.slice pa cur.length pc] 48)) tp2 d2).cell? ((⟨w.heap.size, 0, none⟩ : Addr).add k) = some v := by
        intro k v hk
        have hb : (Sim.re (newB w (.cells #[.slice pa cur.length pc] 48)) tp2 d2).heap[w.heap.size]? = some (.cells #[.slice pa cur.length pc] 48) := newB_new w _
        generalize Sim.re (newB w (.cells #[.slice pa cur.length pc] 48)) tp2 d2 = W at hb ⊢
        rw [Addr.add_lit, Nat.zero_add]
        match k, hk with
        | 0, hk => simpa [World.cell?, hb] using hk
        | k + 1, hk => simp at hk
      obtain ⟨i0, hi0, hz0, hz1, hz2⟩ := info_parts info48
      refine .app (Pl := fun _ => True) (i := 3) (s := 89) (x := 91) (t := 47) (e := 48) (base := w0.heap.size) (ti := i0) (z := .slice none 0 0) (size := 1) (bytes := 24) (v := .slice qa vs.length qc) (n := vs.length) (xs := vs) (ad := ⟨w.heap.size, 0, none⟩) (c := 1) (news := [.slice pa cur.length pc]) (by kernel_rfl) ⟨by kernel_rfl, by kernel_rfl, by kernel_rfl, by kernel_rfl⟩ (by kernel_rfl) (by kernel_rfl)
        (by kernel_rfl) hi0 hz0 hz1 hz2 rfl (by omega) (fun x hx => trivial) (by kernel_rfl) (by kernel_rfl) h2.known h2.vps hv2 h2.ps rfl hcells (fun v hv => by simp at hv; subst hv; rfl) (fun _ _ => trivial) (by simp only [maxLen]; omega) (by omega) (by have := h2.bel.size; exact this) fun psv' w' R' hrow hg hK' hv' hsub' hfr => ?_
      obtain ⟨S', h3⟩ := h2.cut hrow hfr hg hK' hsub' hv'
      refine .kern (n := 9) (by ((repeat (refine ⟨by kernel_rfl, fun _ => by kernel_rfl, ?_⟩)); exact True.intro)) ?_
      refine .val (i := 44) (v := .int .i64 (IntKind.i64.wrap ((i : Int) + 1))) (v' := .int .i64 ((i + 1 : Nat) : Int)) (by kernel_rfl) (by rw [ewrap]) ?_
      refine .kern (n := 3) (by ((repeat (refine ⟨by kernel_rfl, fun _ => by kernel_rfl, ?_⟩)); exact True.intro)) ?_
      exact .lit (tm := fun x => T6 x y u v0 v1 (.slice la ss.length lc) (ptr xb) (ptr yb) psv' (.slice none 0 0) (.int .i64 ((i + 1 : Nat) : Int)) v12 (.bool true) v14 v15) (by kernel_rfl) fun x => hnx x S' R' w' _ _ _ _ _ h3 (by simp; omega) (hsub2.trans hsub')
    · refine .val (i := 87) (v := .bool (decide ((vs.length : Int) < 15))) (v' := .bool false) (by kernel_rfl) (by rw [decide_eq_false (by omega)]) ?_
      refine .kern (n := 8) (by ((repeat (refine ⟨by kernel_rfl, fun _ => by kernel_rfl, ?_⟩)); exact True.intro)) ?_
      refine .val (i := 44) (v := .int .i64 (IntKind.i64.wrap ((i : Int) + 1))) (v' := .int .i64 ((i + 1 : Nat) : Int)) (by kernel_rfl) (by rw [ewrap]) ?_
      refine .kern (n := 3) (by ((repeat (refine ⟨by kernel_rfl, fun _ => by kernel_rfl, ?_⟩)); exact True.intro)) ?_
      exact .lit (tm := fun x => T6 x y u v0 v1 (.slice la ss.length lc) (ptr xb) (ptr yb) (.slice qa vs.length qc) (.slice pa cur.length pc) (.int .i64 ((i + 1 : Nat) : Int)) v12 (.bool true) v14 v15) (by kernel_rfl) fun x => hnx x S R w _ _ vs pss cur h hvs (BR.Sub.refl R)

set_option maxRecDepth 100000 in
/-- Behind the keys: the last part. -/
theorem m_23 (h : P1 S O w0 ss xb yb (.slice la ss.length lc) psv pv ss.length ss.length vs pss cur R w) (hn : ss.length ≤ 300) (hvs : vs.length ≤ 15)
    (hnx : ∀ x S' R' w' psv' vs' pss', P1 S' O w0 ss xb yb (.slice la ss.length lc) psv' (.slice none 0 0) ss.length ss.length vs' pss' [] R' w' → vs'.length ≤ 16 → 0 < vs'.length → BR.Sub R R' →
      ∀ v10 v11, MFg Try.prog Post O (G6 (T6 x y u v0 v1 (.slice la ss.length lc) (ptr xb) (ptr yb) psv' v10 v11 v12 v13 v14 (.int .i64 0)) iT6) w') :
    MFg Try.prog Post O (G6 (T6 x y u v0 v1 (.slice la ss.length lc) (ptr xb) (ptr yb) psv pv (.int .i64 (ss.length : Int)) v12 v13 v14 v15) iL6) w := by
  obtain ⟨pa, pc, rfl⟩ := h.p.form
  obtain ⟨qa, qc, rfl⟩ := h.ps.form
  refine .kern (n := 7) (by ((repeat (refine ⟨by kernel_rfl, fun _ => by kernel_rfl, ?_⟩)); exact True.intro)) ?_
  refine .val (i := 42) (v := .bool (decide ((ss.length : Int) < (ss.length : Int)))) (v' := .bool false) (by kernel_rfl) (by rw [decide_eq_false (by omega)]) ?_
  refine .kern (n := 7) (by ((repeat (refine ⟨by kernel_rfl, fun _ => by kernel_rfl, ?_⟩)); exact True.intro)) ?_
  refine .op (i := 2) (U := [94]) (St := fun v w1 => v = .slice (some ⟨w.heap.size, 0, none⟩) 1 1 ∧ ∃ tp d, w1 = Sim.re (newB w (.cells #[.slice pa cur.length pc] 48)) tp d) (by kernel_rfl) ⟨by kernel_rfl, by kernel_rfl, by kernel_rfl, by kernel_rfl⟩ (by kernel_rfl) (by kernel_rfl) h.known (fun t ht => ?_) (fun tp d => ⟨_, _, by kernel_rfl, rfl, tp, d, rfl⟩) fun v w1 R2 hst hK2 hv2 hsub2 hsz2 => ?_
  · simp at ht; subst ht; exact vr_of (u := .slice pa cur.length pc) (by kernel_rfl) h.vp
  obtain ⟨rfl, tp2, d2, rfl⟩ := hst
  have hB : Bel w (Sim.re (newB w (.cells #[.slice pa cur.length pc] 48)) tp2 d2) := ⟨hsz2, fun b hb => newB_old w _ hb, rfl, rfl⟩
  have h2 := h.on hB hK2 hsub2
  have hcells : ∀ (k : Nat) v, [Value.slice pa cur.length pc][k]? = some v → (Sim.re (newB w (.cells #[.slice pa cur.length pc] 48)) tp2 d2).cell? ((⟨w.heap.size, 0, none⟩ : Addr).add k) = some v := by
    intro k v hk
    have hb : (Sim.re (newB w (.cells #[.slice pa cur.length pc] 48)) tp2 d2).heap[w.heap.size]? = some (.cells #[.slice pa cur.length pc] 48) := newB_new w _
    generalize Sim.re (newB w (.cells #[.slice pa cur.length pc] 48)) tp2 d2 = W at hb ⊢
    rw [Addr.add_lit, Nat.zero_add]
    match k, hk with
    | 0, hk => simpa [World.cell?, hb] using hk
    | k + 1, hk => simp at hk
  obtain ⟨i0, hi0, hz0, hz1, hz2⟩ := info_parts info48
  refine .app (Pl := fun _ => True) (i := 3) (s := 93) (x := 95) (t := 47) (e := 48) (base := w0.heap.size) (ti := i0) (z := .slice none 0 0) (size := 1) (bytes := 24) (v := .slice qa vs.length qc) (n := vs.length) (xs := vs) (ad := ⟨w.heap.size, 0, none⟩) (c := 1) (news := [.slice pa cur.length pc]) (by kernel_rfl) ⟨by kernel_rfl, by kernel_rfl, by kernel_rfl, by kernel_rfl⟩ (by kernel_rfl) (by kernel_rfl)
    (by kernel_rfl) hi0 hz0 hz1 hz2 rfl (by omega) (fun x hx => trivial) (by kernel_rfl) (by kernel_rfl) h2.known h2.vps hv2 h2.ps rfl hcells (fun v hv => by simp at hv; subst hv; rfl) (fun _ _ => trivial) (by simp only [maxLen]; omega) (by omega) (by have := h2.bel.size; exact this) fun psv' w' R' hrow hg hK' hv' hsub' hfr => ?_
  obtain ⟨S', h3⟩ := h2.cut hrow hfr hg hK' hsub' hv'
  refine .kern (n := 9) (by ((repeat (refine ⟨by kernel_rfl, fun _ => by kernel_rfl, ?_⟩)); exact True.intro)) ?_
  exact .lit (tm := fun x => T6 x y u v0 v1 (.slice la ss.length lc) (ptr xb) (ptr yb) psv' (.slice pa cur.length pc) (.int .i64 (ss.length : Int)) v12 v13 v14 (.int .i64 0)) (by kernel_rfl) fun x => hnx x S' R' w' _ _ _ h3 (by simp; omega) (by simp) (hsub2.trans hsub') _ _

set_option maxRecDepth 100000 in
/-- ████ The loop over the keys. ████ -/
theorem m_keys (hn : ss.length ≤ 300) (hss : ∀ s ∈ ss, s.size ≤ 64) (hI : IntO w0 co is) (hO : ∀ a, co = some a → ¬ O a.block) (hlen : is.length ≤ 9223372036854775807)
    (hnx : ∀ x y u S R w psv vs pss, P1 S O w0 ss xb yb (.slice la ss.length lc) psv (.slice none 0 0) ss.length ss.length vs pss [] R w → vs.length ≤ 16 → 0 < vs.length →
      ∀ v10 v11 v12 v13 v14, MFg Try.prog Post O (G6 (T6 x y u v0 (.slice co is.length c1) (.slice la ss.length lc) (ptr xb) (ptr yb) psv v10 v11 v12 v13 v14 (.int .i64 0)) iT6) w) :
    ∀ (r i : Nat), r + i = ss.length → ∀ x y u v12 v13 v14 S R w psv pv vs pss cur, P1 S O w0 ss xb yb (.slice la ss.length lc) psv pv i i vs pss cur R w → vs.length ≤ 15 → (∀ k, VR Xm.G R (y k) (y k)) → (∀ k, VR Xm.G R (u k) (u k)) → VR Xm.G R v12 v12 →
      MFg Try.prog Post O (G6 (T6 x y u v0 (.slice co is.length c1) (.slice la ss.length lc) (ptr xb) (ptr yb) psv pv (.int .i64 (i : Int)) v12 v13 v14 v15) iL6) w := by
  intro r
  induction r with
  | zero =>
    intro i hi x y u v12 v13 v14 S R w psv pv vs pss cur h hvs hy hu h12
    obtain rfl : i = ss.length := by omega
    exact m_23 h hn hvs fun x S' R' w' psv' vs' pss' h' h1 h2 _ v10 v11 => hnx x y u S' R' w' psv' vs' pss' h' h1 h2 v10 v11 v12 v13 v14
  | succ r ih =>
    intro i hi x y u v12 v13 v14 S R w psv pv vs pss cur h hvs hy hu h12
    have hlt : i < ss.length := by omega
    obtain ⟨s, hs⟩ : ∃ s, ss[i]? = some s := ⟨ss[i], List.getElem?_eq_getElem hlt⟩
    obtain ⟨lb, rfl⟩ := h.l.some (by omega)
    have hcur : cur.length ≤ 300 := by
      have : (pss.flatten ++ cur).length = i := by rw [h.sum, List.length_take, prs_len]; omega
      simp at this
      omega
    refine m_12 h hs hn hy h12 fun x y1 R1 w1 pb h1 hpb hne hy1 hp1 hge hR1 => ?_
    obtain ⟨pa, pc, rfl⟩ := h1.p.form
    refine m_13 h1 hs hcur hpb hne hp1 (fun e => by have := (h.p.ge e).2; omega) fun x S2 R2 w2 pv2 h2 hpb2 hR2 => ?_
    refine m_14 h2 hs (hss s (List.mem_of_getElem? hs)) hn hpb2 hne (hp1.mono hR2) (fun k => (hu k).mono (hR1.trans hR2)) fun u3 R3 w3 h3 hu3 hR3 => ?_
    refine .kern (n := 11) (by ((repeat (refine ⟨by kernel_rfl, fun _ => by kernel_rfl, ?_⟩)); exact True.intro)) ?_
    refine .lit (tm := fun x => T6 x y1 u3 v0 (.slice co is.length c1) (.slice (some ⟨lb, 0, none⟩) ss.length lc) (ptr xb) (ptr yb) psv pv2 (.int .i64 (i : Int)) (ptr pb) (.bool false) (.int .i64 ((0 : Nat) : Int)) v15) (it := iK6) (by kernel_rfl) fun x => ?_
    refine m_cuts (fun k c hk => by obtain ⟨kb, o, e1, e2⟩ := hI k c hk; exact ⟨kb, o, e1, h3.bel.cell e2⟩) hO hlen (fun x b v14' => ?_) is.length 0 (by omega) x false
    refine m_20 h3 hlt hn hvs fun x S4 R4 w4 psv4 pv4 vs4 pss4 cur4 h4 hvs4 hR4 => ?_
    exact ih (i + 1) (by omega) x y1 u3 (ptr pb) (.bool b) v14' S4 R4 w4 psv4 pv4 vs4 pss4 cur4 h4 hvs4 (fun k => (hy1 k).mono (hR2.trans (hR3.trans hR4))) (fun k => (hu3 k).mono hR4) (hp1.mono (hR2.trans (hR3.trans hR4)))
end
end Go.Proofs.Ytcgjppacnhmjlaa.Sim
end

section
set_option linter.unusedVariables false
set_option linter.unusedSimpArgs false
set_option linter.unusedSectionVars false
/-! The law's own function: its beginning. -/
namespace Go.Proofs.Ytcgjppacnhmjlaa.Sim
open Go Go.Conc Go.ConcN Go.Conc.Lib Go.ConcR.Gen Go.RowKit
set_option linter.unusedVariables false
set_option linter.unusedSectionVars false
set_option linter.unusedSimpArgs false

theorem fn8 : ∃ fn c, Try.prog.funcs[8]? = some fn ∧ (fn.name == "runtime.NumGoroutine") = false ∧ fn.body = some c := ⟨Try.f8, (Try.f8.body).getD .skip, Try.func8, by kernel_rfl, by kernel_rfl⟩
theorem fn19 : ∃ fn c, Try.prog.funcs[19]? = some fn ∧ (fn.name == "runtime.NumGoroutine") = false ∧ fn.body = some c := ⟨Try.f19, (Try.f19.body).getD .skip, Try.func19, by kernel_rfl, by kernel_rfl⟩
theorem in8 : Xm.G 8 := show mfs.contains 8 = true from by decide
theorem in19 : Xm.G 19 := show mfs.contains 19 = true from by decide
theorem RowQ.base {Pl : Value → Prop} {w : World} {base base' : Nat} {e : TypeId} {size : Nat} {v : Value} {n : Nat} {xs : List Value} (h : RowQ Pl w base e size v n xs) (hb : base' ≤ base) : RowQ Pl w base' e size v n xs := by
  refine ⟨h.1, ?_⟩
  rcases h.2 with h | ⟨g, cap, cur, h1, h2, h3⟩
  · exact .inl h
  · exact .inr ⟨g, cap, cur, h1, Nat.le_trans hb h2, h3⟩
theorem vr_ptr_block {G : FuncId → Prop} {R : BR} {k : Nat} (h : VR G R (ptr k) (ptr k)) : R k k := by
  cases h with
  | ptr hh => exact hh.1
def newIdx : Obj := .cells #[.pointer none] 98

section
variable {O : Nat → Prop} {w0 : World} {ks : List ByteArray} {ao co : Option Addr} {c0 c1 : Nat} {is : List Int} {R0 : BR} {Post : Value → World → Prop}
noncomputable def gIn (ao co : Option Addr) (n m c0 c1 : Nat) : Goroutine := gor (Frame.enter Try.prog 6 #[.slice ao n c0, .slice co m c1] .normal) []
noncomputable def fIn (ao co : Option Addr) (n m c0 c1 : Nat) : Frame := hdF (nxtN Try.prog true 6 (putG (nxtN Try.prog true 6 (gIn ao co n m c0 c1)) (.bool true))).callers

set_option maxRecDepth 100000 in
/-- ████ From the beginning to the turns. ████ -/
theorem m_begin (hK : Known Xm O R0 w0) (hks : StrO w0 ao ks) (hOa : ∀ a, ao = some a → ¬ O a.block) (hkl : ks.length ≤ 9223372036854775807) (hI : IntO w0 co is) (hO : ∀ a, co = some a → ¬ O a.block) (hlen : is.length ≤ 9223372036854775807)
    (hnx : ∀ x y u S R w psv vs pss xb yb la lc, P1 S O w0 (shortOf ks) xb yb (.slice la (shortOf ks).length lc) psv (.slice none 0 0) (shortOf ks).length (shortOf ks).length vs pss [] R w → vs.length ≤ 16 → 0 < vs.length →
      ∀ v10 v11 v12 v13 v14, MFg Try.prog Post O (G6 (T6 x y u (.slice ao ks.length c0) (.slice co is.length c1) (.slice la (shortOf ks).length lc) (ptr xb) (ptr yb) psv v10 v11 v12 v13 v14 (.int .i64 0)) iT6) w) :
    MFg Try.prog Post O (gIn ao co ks.length is.length c0 c1) w0 := by
  obtain ⟨fn, cc, f1, f2, f3⟩ := fn8
  obtain ⟨fn', cc', f1', f2', f3'⟩ := fn19
  refine .kern (n := 6) (by ((repeat (refine ⟨by kernel_rfl, fun _ => by kernel_rfl, ?_⟩)); exact True.intro)) ?_
  refine .call (i := 0) ⟨by kernel_rfl, by kernel_rfl, by kernel_rfl, by kernel_rfl⟩ (by kernel_rfl) (f := 8) (args := #[]) (ats := #[]) (by kernel_rfl) f1 f2 f3 in8 (vals := #[]) (by kernel_rfl) hK ⟨rfl, fun i v v' a b => by simp at a⟩
    (Post1 := fun v w' => v = .bool true ∧ Bel w0 w') (fun v w' tp d ⟨h1, h2⟩ => ⟨h1, h2.re tp d⟩) (fun tp => (awake_any (Sim.re w0 tp 0)).mono fun e w' ⟨h1, h2⟩ => ⟨_, h1, rfl, Bel.of h2⟩) fun v w1 R1 hst hK1 hv1 hR1 hsz1 => ?_
  obtain ⟨rfl, hB1⟩ := hst
  refine .kern (n := 6) (by ((repeat (refine ⟨by kernel_rfl, fun _ => by kernel_rfl, ?_⟩)); exact True.intro)) ?_
  refine .eqv (g' := gEs ao ks.length c0 (fIn ao co ks.length is.length c0 c1) []) (by kernel_rfl) (m_9 (fun i s hs => by obtain ⟨k, o, e1, e2⟩ := hks i s hs; exact ⟨k, o, e1, hB1.cell e2⟩) hOa hkl hK1 fun v w2 R2 hrow hB2 hK2 hv2 hR2 => ?_)
  obtain ⟨la, lc, rfl⟩ := hrow.form
  refine .kern (n := 4) (by ((repeat (refine ⟨by kernel_rfl, fun _ => by kernel_rfl, ?_⟩)); exact True.intro)) ?_
  refine .call (i := 0) ⟨by kernel_rfl, by kernel_rfl, by kernel_rfl, by kernel_rfl⟩ (by kernel_rfl) (f := 19) (args := #[]) (ats := #[]) (by kernel_rfl) f1' f2' f3' in19 (vals := #[]) (by kernel_rfl) hK2 ⟨rfl, fun i v v' a b => by simp at a⟩
    (Post1 := fun v w' => v = ptr w2.heap.size ∧ ∃ tp d, w' = Sim.re (newB w2 newIdx) tp d) (fun v w' tp d ⟨h1, tp', d', h2⟩ => ⟨h1, tp, d, by rw [h2]; rfl⟩) (fun tp => (new_any (Sim.re w2 tp 0)).mono fun e w' ⟨h1, h2⟩ => ⟨_, h1, rfl, tp, 0, by rw [h2]; rfl⟩) fun v w3 R3 hst hK3 hv3 hR3 hsz3 => ?_
  obtain ⟨rfl, tp3, d3, rfl⟩ := hst
  have hB3 : Bel w2 (Sim.re (newB w2 newIdx) tp3 d3) := ⟨hsz3, fun b hb => newB_old w2 _ hb, rfl, rfl⟩
  have hx3 : (Sim.re (newB w2 newIdx) tp3 d3).heap[w2.heap.size]? = some newIdx := newB_new w2 _
  have hs3 : (Sim.re (newB w2 newIdx) tp3 d3).heap.size = w2.heap.size + 1 := by simp [Sim.newB, Sim.re]
  generalize Sim.re (newB w2 newIdx) tp3 d3 = w3 at hB3 hx3 hK3 hsz3 hs3
  refine .kern (n := 4) (by ((repeat (refine ⟨by kernel_rfl, fun _ => by kernel_rfl, ?_⟩)); exact True.intro)) ?_
  refine .call (i := 0) ⟨by kernel_rfl, by kernel_rfl, by kernel_rfl, by kernel_rfl⟩ (by kernel_rfl) (f := 19) (args := #[]) (ats := #[]) (by kernel_rfl) f1' f2' f3' in19 (vals := #[]) (by kernel_rfl) hK3 ⟨rfl, fun i v v' a b => by simp at a⟩
    (Post1 := fun v w' => v = ptr w3.heap.size ∧ ∃ tp d, w' = Sim.re (newB w3 newIdx) tp d) (fun v w' tp d ⟨h1, tp', d', h2⟩ => ⟨h1, tp, d, by rw [h2]; rfl⟩) (fun tp => (new_any (Sim.re w3 tp 0)).mono fun e w' ⟨h1, h2⟩ => ⟨_, h1, rfl, tp, 0, by rw [h2]; rfl⟩) fun v w4 R4 hst hK4 hv4 hR4 hsz4 => ?_
  obtain ⟨rfl, tp4, d4, rfl⟩ := hst
  have hB4 : Bel w3 (Sim.re (newB w3 newIdx) tp4 d4) := ⟨hsz4, fun b hb => newB_old w3 _ hb, rfl, rfl⟩
  have hy4 : (Sim.re (newB w3 newIdx) tp4 d4).heap[w3.heap.size]? = some newIdx := newB_new w3 _
  have hs4 : (Sim.re (newB w3 newIdx) tp4 d4).heap.size = w3.heap.size + 1 := by simp [Sim.newB, Sim.re]
  have hx4 := (hB4.block w2.heap.size (by omega)).trans hx3
  generalize Sim.re (newB w3 newIdx) tp4 d4 = w4 at hB4 hx4 hy4 hK4 hsz4 hs4
  refine .kern (n := 33) (by ((repeat (refine ⟨by kernel_rfl, fun _ => by kernel_rfl, ?_⟩)); exact True.intro)) ?_
  refine .lit (tm := fun x => T6 x (fun _ => undef) (fun _ => undef) (.slice ao ks.length c0) (.slice co is.length c1) (.slice la (shortOf ks).length lc) (ptr w2.heap.size) (ptr w3.heap.size) (.slice none 0 0) (.slice none 0 0) (.int .i64 ((0 : Nat) : Int)) undef undef undef undef) (it := iL6) (by kernel_rfl) fun x => ?_
  have h64 : ∀ s ∈ shortOf ks, s.size ≤ 64 := fun s hs => by
    obtain ⟨q, _, rfl⟩ := List.mem_map.1 hs
    exact cut64_size q
  have hle : w0.heap.size ≤ w2.heap.size := Nat.le_trans hB1.size hB2.size
  refine m_keys (by rw [shortOf_len]; omega) h64 hI hO hlen (fun x y u S R w psv vs pss h h1 h2 v10 v11 v12 v13 v14 => hnx x y u S R w psv vs pss _ _ la lc h h1 h2 v10 v11 v12 v13 v14) (shortOf ks).length 0 (by omega) x _ _ undef undef undef (fun k => k ≠ w2.heap.size ∧ k ≠ w3.heap.size) R4 w4 (.slice none 0 0) (.slice none 0 0) [] [] []
    { known := hK4, bel := hB1.trans (hB2.trans (hB3.trans hB4)), l := (hrow.base hB1.size).keep fun k hk => ((hB4.block k (by have := (hrow.ge hk).2; omega)).trans (hB3.block k (hrow.ge hk).2)), vl := hv2.mono (hR3.trans hR4), x := ⟨⟨0, none, hx4, .inl ⟨rfl, rfl⟩⟩, fun h => h.1 rfl, by simp [puts]⟩, y := ⟨⟨0, none, hy4, .inl ⟨rfl, rfl⟩⟩, fun h => h.2 rfl, by simp⟩, vx := hR4 _ _ (vr_ptr_block hv3), vy := vr_ptr_block hv4, low := ⟨hle, by omega, by omega⟩, opn := fun k hk => ⟨by omega, by omega⟩, ps := RowQ.nil _ _ _ _ _, vps := .snil 0 0, p := RowQ.nil _ _ _ _ _, vp := .snil 0 0, nil := fun _ => rfl, outS := fun b hb => by (rcases hb with h | h <;> cases h), done := fun j v ps h => by simp at h, len := rfl, sum := by simp }
    (by simp) (fun k => .undef) (fun k => .undef) .undef
end
end Go.Proofs.Ytcgjppacnhmjlaa.Sim
end
