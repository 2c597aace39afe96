/- Own texts: FwM, FwN. -/
import Derived.Test.YtcgjppacnhmjlaaFmBD
import Derived.Test.YtcgjppacnhmjlaaFmAL
import Derived.Test.YtcgjppacnhmjlaaFmBB

section
set_option linter.unusedVariables false
set_option linter.unusedSimpArgs false
set_option linter.unusedSectionVars false
/-! A worker, whole. -/
namespace Go.Proofs.Ytcgjppacnhmjlaa.Sim
open Go Go.Conc Go.ConcN Go.Conc.Lib Go.ConcR.Gen
open Go.ConcR (KK wgBlock WgAt stA smA rd wr mk Payload DC0)
set_option linter.unusedVariables false
set_option linter.unusedSectionVars false
set_option linter.unusedSimpArgs false

section
variable {p : Wp} {w : World} {M : Nat → Prop} {Rs : Value → Value → (Nat → Prop) → World → Prop} {l : Nat → Bool} {x : Nat → Value} {rest : List Nat} {Q : (Nat → Prop) → Goroutine → World → Prop}

theorem addr_add (b k : Nat) : (⟨b, 0, none⟩ : Addr).add ((k : Int).toNat * 1) = ⟨b, k, none⟩ := by
  simp only [Addr.add, Int.toNat_natCast, Nat.mul_one]
  split
  · rename_i h; rw [h]
  · simp
/-- What the call of treeOfPart does, in company. -/
def Wp.Call (p : Wp) (Rs : Value → Value → (Nat → Prop) → World → Prop) (Q : (Nat → Prop) → Goroutine → World → Prop) : Prop :=
  ∀ w c cs, p.F w → (∀ M' vt ve w', (∀ b, M' b → ¬ p.z.all b) → p.F w' → vt.oneCell' = true → ve.oneCell' = true → Rs vt ve M' w' → CoG Try.prog p.z Q M' (gor (c.finish (.tuple #[vt, ve])) cs) w') →
    CoG Try.prog p.z Q (fun _ => False) (gor (Frame.enter Try.prog 87 #[p.vP] .normal) (c :: cs)) w

set_option maxRecDepth 100000 in
theorem wk_step (ok : p.Ok) (hRs : ∀ vt ve M w w1, (∀ b, M b → w1.heap[b]? = w.heap[b]?) → Rs vt ve M w → Rs vt ve M w1) (hcall : p.Call Rs Q) : ∀ l M x w i rest, p.K Rs l M x w → i < 13 → l i = false → Nd i l → Cl l → (∀ M' x' w', p.K Rs (setL l i) M' x' w' → CoG Try.prog p.z Q M' (p.g x' rest) w') → CoG Try.prog p.z Q M (p.g x (i :: rest)) w := by
  intro l M x w i rest hK hi hl hnd hcl hn
  obtain ⟨h8, h4, h7, h5, hg, hf⟩ := ok.part
  match i, hi, hl, hnd, hn with
  | 0, _, hl, _, hn =>
    exact cog_box (t := 101) (y := .tmp 1) (by kernel_rfl) (r_at _ _ _ _ _ _ x rest 0 (by decide) (by decide)) (by kernel_rfl) (by kernel_rfl) Try.isAgg101 h4 hK.f.c4 (.eqv (by kernel_rfl) (hn _ _ _ hK.s0))
  | 1, _, hl, _, hn =>
    exact cog_box (t := 3) (y := .tmp 2) (by kernel_rfl) (r_at _ _ _ _ _ _ x rest 1 (by decide) (by decide)) (by kernel_rfl) (by kernel_rfl) Try.isAgg3 h7 hK.f.c7 (.eqv (by kernel_rfl) (hn _ _ _ hK.s1))
  | 2, _, hl, _, hn =>
    exact cog_box (t := 140) (y := .tmp 3) (by kernel_rfl) (r_at _ _ _ _ _ _ x rest 2 (by decide) (by decide)) (by kernel_rfl) (by kernel_rfl) Try.isAgg140 h5 hK.f.c5 (.eqv (by kernel_rfl) (hn _ _ _ hK.s2))
  | 3, _, hl, _, hn =>
    exact cog_box (t := 3) (y := .tmp 2) (by kernel_rfl) (r_at _ _ _ _ _ _ x rest 3 (by decide) (by decide)) (by kernel_rfl) (by kernel_rfl) Try.isAgg3 h7 hK.f.c7 (.eqv (by kernel_rfl) (hn _ _ _ hK.s3))
  | 4, _, hl, _, hn =>
    exact cog_box (t := 48) (y := .tmp 0) (by kernel_rfl) (r_at _ _ _ _ _ _ x rest 4 (by decide) (by decide)) (by kernel_rfl) (by kernel_rfl) Try.isAgg48 h8 hK.f.c8 (.eqv (by kernel_rfl) (hn _ _ _ hK.s4))
  | 5, _, hl, hnd, hn =>
    have tf : ∀ {j}, (l j = true → l 5 = true) → l j = false := fun {j} h => by
      cases e : l j with
      | false => rfl
      | true => rw [h e] at hl; cases hl
    have h65 : l 6 = true → l 5 = true := fun h => hcl 6 (by decide) h
    have h95 : l 9 = true → l 5 = true := fun h => (hcl 9 (by decide) h).2.2.2.2.2.1
    have e0 : M = fun _ => False := funext fun b => propext ⟨fun h => hK.no hl b h, False.elim⟩
    subst e0
    refine .ctl (g' := gor (Frame.enter Try.prog 87 #[x 9] .normal) ((p.g x (5 :: rest)).frame :: cK p.B1 p.B2 p.b8 p.b4 p.b7 p.b5 :: csK p.B1 p.B2 p.b8 p.b4 p.b7 p.b5)) (by kernel_rfl) (fun w => by kernel_rfl) ?_
    rw [hK.v4 hnd]
    refine hcall w _ _ hK.f fun M' vt ve w' ho hf1 o1 o2 hr => .eqv (by kernel_rfl) (hn M' (updX x 10 (.tuple #[vt, ve])) w' (hK.s5 hf1 ho o1 o2 hr (tf h65) (tf fun h => h65 (hcl 7 (by decide) h)) (tf fun h => h65 (hcl 8 (by decide) h)) (tf fun h => h95 (hcl 10 (by decide) h)) (tf fun h => h95 (hcl 10 (by decide) (hcl 11 (by decide) (hcl 12 (by decide) h)).2))))
  | 6, _, hl, hnd, hn =>
    exact .ctl (g' := p.g (updX x 4 (x 10)) rest) (by kernel_rfl) (fun w => by kernel_rfl) (hn _ _ _ hK.s6)
  | 7, _, hl, hnd, hn =>
    obtain ⟨vt, ve, a1, a2, a3, a4, a5, a6, a7, a8, a9⟩ := hK.val (hcl 6 (by decide) hnd)
    have hx4 := a4 hnd
    rw [← updX_id hx4]
    refine .ctl (g' := p.g (updX (updX x 4 (.tuple #[vt, ve])) 11 vt) rest) (by kernel_rfl) (fun w => by kernel_rfl) ?_
    rw [updX_id hx4]
    exact hn _ _ _ ⟨hK.f, hK.out, fun a => hK.v0 a, fun a => hK.v1 a, fun a => hK.v2 a, fun a => hK.v3 a, fun a => hK.v4 a, fun a => hK.no a, fun a => hK.v9 a, fun a => hK.v11 a, fun a => ⟨vt, ve, a1, a2, a3, a4, fun _ => rfl, a6, a7, a8, a9⟩⟩
  | 8, _, hl, hnd, hn =>
    obtain ⟨vt, ve, a1, a2, a3, a4, a5, a6, a7, a8, a9⟩ := hK.val (hcl 6 (by decide) hnd)
    have hx4 := a4 hnd
    rw [← updX_id hx4]
    refine .ctl (g' := p.g (updX (updX x 4 (.tuple #[vt, ve])) 12 ve) rest) (by kernel_rfl) (fun w => by kernel_rfl) ?_
    rw [updX_id hx4]
    exact hn _ _ _ ⟨hK.f, hK.out, fun a => hK.v0 a, fun a => hK.v1 a, fun a => hK.v2 a, fun a => hK.v3 a, fun a => hK.v4 a, fun a => hK.no a, fun a => hK.v9 a, fun a => hK.v11 a, fun a => ⟨vt, ve, a1, a2, a3, a4, a5, fun _ => rfl, a7, a8, a9⟩⟩
  | 9, _, hl, hnd, hn =>
    have e1 : (aG (p.g x (9 :: rest))).eval (.tmp 5) = x 5 := by kernel_rfl
    have e2 : (aG (p.g x (9 :: rest))).eval (.tmp 6) = x 6 := by kernel_rfl
    have hlt := ok.lt
    refine .ctl (g' := putG (p.g x (9 :: rest)) (.pointer (some ⟨p.z.T, p.z.i, none⟩))) (by kernel_rfl) (fun w => ?_) (.eqv (by kernel_rfl) (hn _ _ _ hK.s9))
    have := step_ix (P := Try.prog) (main := false) (w := w) (r_at p.B1 p.B2 p.b8 p.b4 p.b7 p.b5 x rest 9 (by decide) (by decide)) (t := 101) (x := .tmp 5) (y := .tmp 6) (e := 93) (n := 1) (by kernel_rfl) (e1.trans (hK.v0 hnd.1)) (e2.trans (hK.v1 hnd.2.1)) ⟨by omega, by omega⟩ (Try.runUnderlying101 w) (Try.sizeOf93 w)
    rw [this, addr_add]
  | 10, _, hl, hnd, hn =>
    have h9 := hcl 9 (by decide) hnd
    obtain ⟨vt, ve, a1, a2, a3, a4, a5, a6, a7, a8, a9⟩ := hK.val h9.2.2.2.2.2.1
    have e1 : (aG (p.g x (10 :: rest))).eval (.tmp 13) = x 13 := by kernel_rfl
    have e2 : (aG (p.g x (10 :: rest))).eval (.tmp 11) = x 11 := by kernel_rfl
    have n11 : l 11 = false := by
      cases e : l 11 with
      | false => rfl
      | true => rw [(hcl 11 (by decide) e).2] at hl; cases hl
    have n12 : l 12 = false := by
      cases e : l 12 with
      | false => rfl
      | true => rw [hcl 12 (by decide) e] at n11; cases n11
    refine cog_pay ok hK.f hK.out (.inl rfl) (by kernel_rfl) (r_at _ _ _ _ _ _ x rest 10 (by decide) (by decide)) (t := 93) (y := .tmp 13) (u := .tmp 11) (by kernel_rfl) (e1.trans (hK.v9 hnd)) (e2.trans (a5 h9.2.2.2.2.2.2.2)) a1 Try.sizeOf93 fun w1 hr hf1 hc hb => ?_
    have hM : ∀ b, M b → (w1.setCell ⟨p.z.T, p.z.i, none⟩ vt).heap[b]? = w.heap[b]? := fun b hb' => (hb b fun e => hK.out b hb' (.inl e)).trans (hr.own b hb')
    refine .eqv (by kernel_rfl) (hn M x _ ⟨hf1, hK.out, fun a => hK.v0 a, fun a => hK.v1 a, fun a => hK.v2 a, fun a => hK.v3 a, fun a => hK.v4 a, fun a => hK.no a, fun a => hK.v9 a, fun a => hK.v11 a, fun a => ⟨vt, ve, a1, a2, a3, a4, a5, a6, hRs _ _ _ _ _ hM a7, fun _ => hc, fun a => absurd (show l 12 = true from a) (by rw [n12]; simp)⟩⟩)
  | 11, _, hl, hnd, hn =>
    have h9 := hcl 9 (by decide) (hcl 10 (by decide) hnd.2)
    have e1 : (aG (p.g x (11 :: rest))).eval (.tmp 7) = x 7 := by kernel_rfl
    have e2 : (aG (p.g x (11 :: rest))).eval (.tmp 8) = x 8 := by kernel_rfl
    have hlt := ok.lt
    refine .ctl (g' := putG (p.g x (11 :: rest)) (.pointer (some ⟨p.z.E, p.z.i, none⟩))) (by kernel_rfl) (fun w => ?_) (.eqv (by kernel_rfl) (hn _ _ _ hK.s11))
    have := step_ix (P := Try.prog) (main := false) (w := w) (r_at p.B1 p.B2 p.b8 p.b4 p.b7 p.b5 x rest 11 (by decide) (by decide)) (t := 140) (x := .tmp 7) (y := .tmp 8) (e := 27) (n := 1) (by kernel_rfl) (e1.trans (hK.v2 h9.2.2.1)) (e2.trans (hK.v3 h9.2.2.2.1)) ⟨by omega, by omega⟩ (Try.runUnderlying140 w) (Try.sizeOf27 w)
    rw [this, addr_add]
  | 12, _, hl, hnd, hn =>
    have h11 := hcl 11 (by decide) hnd
    have h9 := hcl 9 (by decide) (hcl 10 (by decide) h11.2)
    obtain ⟨vt, ve, a1, a2, a3, a4, a5, a6, a7, a8, a9⟩ := hK.val h9.2.2.2.2.2.1
    have e1 : (aG (p.g x (12 :: rest))).eval (.tmp 14) = x 14 := by kernel_rfl
    have e2 : (aG (p.g x (12 :: rest))).eval (.tmp 12) = x 12 := by kernel_rfl
    refine cog_pay ok hK.f hK.out (.inr rfl) (by kernel_rfl) (r_at _ _ _ _ _ _ x rest 12 (by decide) (by decide)) (t := 27) (y := .tmp 14) (u := .tmp 12) (by kernel_rfl) (e1.trans (hK.v11 hnd)) (e2.trans (a6 h11.1)) a2 Try.sizeOf27 fun w1 hr hf1 hc hb => ?_
    have hM : ∀ b, M b → (w1.setCell ⟨p.z.E, p.z.i, none⟩ ve).heap[b]? = w.heap[b]? := fun b hb' => (hb b fun e => hK.out b hb' (.inr (.inl e))).trans (hr.own b hb')
    have hT : (w1.setCell ⟨p.z.E, p.z.i, none⟩ ve).cell? ⟨p.z.T, p.z.i, none⟩ = some vt := by
      have h1 := payx_cell hr.payT (a8 h11.2)
      unfold World.cell? at h1 ⊢
      rw [hb _ ok.ne]; exact h1
    refine .eqv (by kernel_rfl) (hn M x _ ⟨hf1, hK.out, fun a => hK.v0 a, fun a => hK.v1 a, fun a => hK.v2 a, fun a => hK.v3 a, fun a => hK.v4 a, fun a => hK.no a, fun a => hK.v9 a, fun a => hK.v11 a, fun a => ⟨vt, ve, a1, a2, a3, a4, a5, a6, hRs _ _ _ _ _ hM a7, fun _ => hT, fun _ => hc⟩⟩)
  | n + 13, hi, _, _, _ => omega

set_option maxRecDepth 100000 in
/-- ████ A WORKER. ████ -/
theorem wk_kid {C : FC} {x : Nat} (hP : C.P = Try.prog) (hty : C.ty = 147) (ok : p.Ok) (hz : p.z.T = C.T ∧ p.z.E = C.E ∧ p.z.i = x - C.m) (hWg : p.Wg = C.Wg) (hf : p.F w) (hRs : ∀ vt ve M w w1, (∀ b, M b → w1.heap[b]? = w.heap[b]?) → Rs vt ve M w → Rs vt ve M w1) (hcall : p.Call Rs (C.pr x))
    (hRes : ∀ vt ve M w, Rs vt ve M w → w.cell? ⟨C.E, x - C.m, none⟩ = some ve → C.Res x vt M w) : CoG C.P p.z (C.pr x) (fun _ => False) (kid p.B1 p.B2) w := by
  rw [hP]
  obtain ⟨h8, h4, h7, h5, hg, hfn⟩ := ok.part
  refine .kern (n := 7) (by ((repeat (refine ⟨by kernel_rfl, fun _ => by kernel_rfl, ?_⟩)); exact True.intro)) ?_
  refine cog_box (p := p) (t := 1) (y := .tmp 1) (i := 0) (b := p.B2) (v := fvv p.b8 p.b4 p.b7 p.b5) (by kernel_rfl) ⟨by kernel_rfl, by kernel_rfl, by kernel_rfl, by kernel_rfl⟩ (by kernel_rfl) (by kernel_rfl) Try.isAgg1 hfn hf.cf ?_
  refine .kern (n := 1) (by ((repeat (refine ⟨by kernel_rfl, fun _ => by kernel_rfl, ?_⟩)); exact True.intro)) ?_
  change CoG Try.prog p.z (C.pr x) (fun _ => False) (gK2 p.B1 p.B2 p.b8 p.b4 p.b7 p.b5) w
  refine cog_86 p.B1 p.B2 p.b8 p.b4 p.b7 p.b5 (K := p.K Rs) (fun w1 hr => ?_) (wk_step ok hRs hcall) fun l M y w1 hK hall => ?_
  · have h1 := hf.ry ok hr
    refine ⟨⟨h1.c8, h1.c4, h1.c7, h1.c5, h1.cg, h1.cf, h1.tT, h1.tE, h1.all, h1.pairs, h1.glob⟩, fun b hb => hb.elim, fun a => (by cases a), fun a => (by cases a), fun a => (by cases a), fun a => (by cases a), fun a => (by cases a), fun _ b => id, fun a => (by cases a), fun a => (by cases a), fun a => (by cases a)⟩
  · obtain ⟨vt, ve, a1, a2, a3, a4, a5, a6, a7, a8, a9⟩ := hK.val (hall 5 (by decide))
    have hTc := a8 (hall 10 (by decide))
    have hEc := a9 (hall 12 (by decide))
    refine .kern (n := 3) (by ((repeat (refine ⟨by kernel_rfl, fun _ => by kernel_rfl, ?_⟩)); exact True.intro)) (.eqv (g' := gor ((cK p.B1 p.B2 p.b8 p.b4 p.b7 p.b5).finish (.tuple #[])) (csK p.B1 p.B2 p.b8 p.b4 p.b7 p.b5)) (by kernel_rfl) ?_)
    refine .kern (n := 17) (by ((repeat (refine ⟨by kernel_rfl, fun _ => by kernel_rfl, ?_⟩)); exact True.intro)) ?_
    refine cog_box (p := p) (t := 165) (y := .tmp 0) (i := 0) (b := p.B1) (v := pwg p.Wg) (by kernel_rfl) ⟨by kernel_rfl, by kernel_rfl, by kernel_rfl, by kernel_rfl⟩ (by kernel_rfl) (by kernel_rfl) Try.isAgg165 hg hK.f.cg ?_
    refine .kern (n := 4) (by ((repeat (refine ⟨by kernel_rfl, fun _ => by kernel_rfl, ?_⟩)); exact True.intro)) ?_
    change CoG Try.prog p.z (C.pr x) M (gK4 p.Wg p.B1 p.B2 p.b8 p.b4 p.b7 p.b5) w1
    refine .done fun w2 hr => ⟨by kernel_rfl, fun hwf => ?_⟩
    have hTc2 := payx_cell hr.payT hTc
    have hEc2 := payx_cell hr.payE hEc
    obtain ⟨z1, z2, z3⟩ := hz
    rw [z1, z3] at hTc2
    rw [z2, z3] at hEc2
    rw [hWg]
    obtain ⟨k, hk⟩ := pre_done (x := x) (v := vt) (B1 := p.B1) (B2 := p.B2) (b8 := p.b8) (b4 := p.b4) (b7 := p.b7) (b5 := p.b5) hP hty hwf hTc2
    exact ⟨vt, k, hk, hRes _ _ _ _ (hRs _ _ _ _ _ (fun b hb => hr.own b hb) a7) hEc2⟩
end

end Go.Proofs.Ytcgjppacnhmjlaa.Sim
end

section
set_option linter.unusedVariables false
set_option linter.unusedSimpArgs false
set_option linter.unusedSectionVars false
/-! What a lone run leaves, in company. -/
namespace Go.Proofs.Ytcgjppacnhmjlaa.Sim
open Go Go.Conc Go.ConcN Go.Conc.Lib Go.ConcR.Gen
open Go.ConcR (KK wgBlock WgAt stA smA rd wr mk Payload DC0)
set_option linter.unusedVariables false
set_option linter.unusedSectionVars false
set_option linter.unusedSimpArgs false

section
variable {V : TypeId → Prop} {N : Nat} {G : FuncId → Prop} {R : BR} {S : Nat → Nat → Prop} {w w' : World} {Sl Sr : Nat → Prop}

theorem vr_string {s : ByteArray} {v : Value} (h : VR G R (.string s) v) : v = .string s := by cases h; rfl
theorem vr_int {k : IntKind} {n : Int} {v : Value} (h : VR G R (.int k n) v) : v = .int k n := by cases h; rfl
theorem vr_nil {v : Value} (h : VR G R (.pointer none) v) : v = .pointer none := by cases h; rfl
theorem vr_ptr {b : Nat} {v : Value} (h : VR G R (.pointer (some ⟨b, 0, none⟩)) v) : ∃ b', R b b' ∧ v = .pointer (some ⟨b', 0, none⟩) := by
  cases h with
  | @ptr a a' h =>
    obtain ⟨b', o, sp⟩ := a'
    obtain ⟨h1, h2, h3⟩ := h
    dsimp only at h1 h2 h3
    subst h2 h3
    exact ⟨b', h1, rfl⟩
theorem vr_snil {l c : Nat} {v : Value} (h : VR G R (.slice none l c) v) : v = .slice none l c := by cases h; rfl
theorem vr_slice {b o l c : Nat} {v : Value} (h : VR G R (.slice (some ⟨b, o, none⟩) l c) v) : ∃ b', R b b' ∧ v = .slice (some ⟨b', o, none⟩) l c := by
  cases h with
  | @slice a a' l c h =>
    obtain ⟨b', o', sp⟩ := a'
    obtain ⟨h1, h2, h3⟩ := h
    dsimp only at h1 h2 h3
    subst h2 h3
    exact ⟨b', h1, rfl⟩
theorem wr_cell {b b' o : Nat} {v : Value} (h : WR V N G R S w w') (hr : R b b') (hc : w.cell? ⟨b, o, none⟩ = some v) : ∃ v', w'.cell? ⟨b', o, none⟩ = some v' ∧ VR G R v v' := h.cell (a := ⟨b, o, none⟩) (a' := ⟨b', o, none⟩) ⟨hr, rfl, rfl⟩ hc

theorem wr_node {b b' n : Nat} {pre : ByteArray} {vp : Option Addr} {bv : Value} (h : WR V N G R S w w') (hS : ∀ i, ¬ S b i) (hr : R b b') (hN : NodeAt Sl w b pre vp bv n) (hSr : Sr b') :
    ∃ vp' bv', NodeAt Sr w' b' pre vp' bv' n ∧ VR G R (.pointer vp) (.pointer vp') ∧ VR G R bv bv' := by
  obtain ⟨o, o', h1, h2, h3⟩ := h.blk b b' hr
  rw [hN.blk] at h1
  cases h1
  obtain ⟨v0, e0, r0⟩ := wr_cell h hr hN.c0
  obtain ⟨v1, e1, r1⟩ := wr_cell h hr hN.c1
  obtain ⟨v2, e2, r2⟩ := wr_cell h hr hN.c2
  obtain ⟨v3, e3, r3⟩ := wr_cell h hr hN.c3
  obtain rfl := vr_string r0
  obtain rfl := vr_int r3
  unfold node at h3
  cases h3 with
  | @cells c c' e f f' a1 a2 a3 a4 =>
    obtain ⟨rfl, hsz⟩ := a3 hS
    have hp : ∃ vp', v1 = .pointer vp' := by
      cases vp with
      | none => exact ⟨none, vr_nil r1⟩
      | some a =>
        cases r1 with
        | @ptr a a' _ => exact ⟨some a', rfl⟩
    obtain ⟨vp', rfl⟩ := hp
    refine ⟨vp', v2, ⟨hSr, ?_, hN.short⟩, r1, r2⟩
    rw [h2]
    unfold node
    congr 2
    simp only [World.cell?, h2] at e0 e1 e2 e3
    simp at e0 e1 e2 e3
    apply Array.ext_getElem?
    intro i
    match i with
    | 0 => simpa using e0
    | 1 => simpa using e1
    | 2 => simpa using e2
    | 3 => simpa using e3
    | k + 4 =>
      rw [Array.getElem?_eq_none (by rw [hsz]; simp), Array.getElem?_eq_none (by simp)]
theorem wr_pl {b b' : Nat} {v : Plc} (h : WR V N G R S w w') (hr : R b b') (hp : PlAt w b v) : PlAt w' b' v := by
  obtain ⟨v0, e0, r0⟩ := wr_cell h hr hp.1
  obtain ⟨v1, e1, r1⟩ := wr_cell h hr hp.2.1
  obtain ⟨v2, e2, r2⟩ := wr_cell h hr hp.2.2
  obtain rfl := vr_int r0
  obtain rfl := vr_int r1
  obtain rfl := vr_string r2
  exact ⟨e0, e1, e2⟩
open Classical in
/-- ████ A TREE THERE IS A TREE HERE. ████ -/
theorem wr_rep (h : WR V N G R S w w') (hS : ∀ b, Sl b → ∀ i, ¬ S b i) (hSr : ∀ b b', R b b' → Sl b → Sr b') : ∀ (n : Nat) {b b' : Nat} {l : List KV}, R b b' → RepN Sl n w b l → RepN Sr n w' b' l
  | 0, _, _, _, _, hR => hR.elim
  | n + 1, b, b', l, hr, ⟨pre, vp, bv, ov, cs, xs, gs, hN, hO, hRow, hl, hC, hs⟩ => by
    obtain ⟨vp', bv', hN', r1, r2⟩ := wr_node (Sr := Sr) h (hS b hN.inS) hr hN (hSr b b' hr hN.inS)
    have hO' : OwnAt Sr w' vp' ov := by
      cases ov with
      | none =>
        have e : vp = none := hO
        subst e
        have := vr_nil r1
        cases this
        rfl
      | some v =>
        obtain ⟨vb, o1, rfl, o3⟩ := hO
        obtain ⟨vb', q1, q2⟩ := vr_ptr r1
        cases q2
        exact ⟨vb', hSr _ _ q1 o1, rfl, wr_pl h q1 o3⟩
    rcases hRow with ⟨rfl, rfl⟩ | ⟨k, o, cap, k1, rfl, k3, k4, k5, k6⟩
    · have := vr_snil r2
      subst this
      exact ⟨pre, vp', _, ov, [], xs, gs, hN', hO', .inl ⟨rfl, rfl⟩, hl, fun i c g h1 => by simp at h1, hs⟩
    · obtain ⟨k', q1, q2⟩ := vr_slice r2
      subst q2
      have ex : ∀ (i c : Nat), cs[i]? = some c → ∃ c', R c c' ∧ w'.cell? ⟨k', o + i, none⟩ = some (.pointer (some ⟨c', 0, none⟩)) := by
        intro i c hi
        obtain ⟨v0, e0, r0⟩ := wr_cell h q1 (k5 i c hi)
        obtain ⟨c', s1, s2⟩ := vr_ptr r0
        subst s2
        exact ⟨c', s1, e0⟩
      let f : Nat → Nat := fun c => if hx : ∃ c', R c c' then Classical.choose hx else 0
      have hf : ∀ {c c' : Nat}, R c c' → f c = c' := by
        intro c c' hc
        have hx : ∃ c', R c c' := ⟨c', hc⟩
        have e : f c = Classical.choose hx := dif_pos hx
        rw [e]
        exact h.fine.fn c _ _ (Classical.choose_spec hx) hc
      have hcs : ∀ (i c' : Nat), (cs.map f)[i]? = some c' → ∃ c, cs[i]? = some c ∧ R c c' ∧ w'.cell? ⟨k', o + i, none⟩ = some (.pointer (some ⟨c', 0, none⟩)) := by
        intro i c' hi
        rw [List.getElem?_map, Option.map_eq_some_iff] at hi
        obtain ⟨c, h1, h2⟩ := hi
        obtain ⟨d, d1, d2⟩ := ex i c h1
        rw [hf d1] at h2
        subst h2
        exact ⟨c, h1, d1, d2⟩
      refine ⟨pre, vp', _, ov, cs.map f, xs, gs, hN', hO', .inr ⟨k', o, cap, hSr _ _ q1 k1, by rw [List.length_map], by rw [List.length_map]; exact k3, k4, fun i c' hi => (hcs i c' hi).choose_spec.2.2, by simpa using k6⟩, by rw [List.length_map]; exact hl, fun i c' g h1 h2 => ?_, hs⟩
      obtain ⟨c, c1, c2, _⟩ := hcs i c' h1
      exact wr_rep h hS hSr n c2 (hC i c g c1 h2)

/-- What is the same here and there is good here. -/
theorem vr_image {Gm : FuncId → Prop} {R2 : BR} (hG : ∀ f, G f → Gm f) (hR : ∀ a b, R a b → R2 b b) {v v' : Value} (h : VR G R v v') : VR Gm R2 v' v' := by
  have arr : ∀ {xs xs' : Array Value}, xs.size = xs'.size → (∀ (i : Nat) v v', xs[i]? = some v → xs'[i]? = some v' → VR Gm R2 v' v') → ∀ (i : Nat) v v', xs'[i]? = some v → xs'[i]? = some v' → VR Gm R2 v v' := by
    intro xs xs' hsz ih i v v' h1 h2
    rw [h1] at h2; cases h2
    have hlt : i < xs.size := by rw [hsz]; exact (Array.getElem?_eq_some_iff.1 h1).1
    exact ih i _ _ (Array.getElem?_eq_getElem hlt) h1
  induction h with
  | bool b => exact .bool b
  | int k n => exact .int k n
  | string s => exact .string s
  | pnil => exact .pnil
  | @ptr a a' h => exact .ptr ⟨hR _ _ h.1, rfl, rfl⟩
  | snil l c => exact .snil l c
  | slice l c h => exact .slice l c ⟨hR _ _ h.1, rfl, rfl⟩
  | func f hg h1 _ h3 _ ih1 ih2 => exact .func f (hG f hg) rfl (arr h1 ih1) rfl (arr h3 ih2)
  | nilFunc => exact .nilFunc
  | anyN => exact .anyN
  | agg h1 _ ih => exact .agg rfl (arr h1 ih)
  | tuple h1 _ ih => exact .tuple rfl (arr h1 ih)
theorem blk_image {Gm : FuncId → Prop} {Vm : TypeId → Prop} {R2 : BR} (hG : ∀ f, G f → Gm f) (hV : ∀ u, V u → Vm u) (hR : ∀ a b, R a b → R2 b b) {a b : Nat} {o o' : Obj} (hS : ∀ j, ¬ S a j) (h : BlkR V G R S a o o') : BlkR Vm Gm R2 (fun _ _ => False) b o' o' := by
  cases h with
  | @cells c c' e f f' h1 h2 h3 h4 =>
    obtain ⟨_, hsz⟩ := h3 hS
    refine .cells ⟨Nat.le_refl _, fun i v v' x y => ?_⟩ (fun _ => .inl rfl) (fun _ => ⟨rfl, rfl⟩) (fun i x => x.elim)
    rw [x] at y; cases y
    have hlt : i < c.size := by rw [← hsz]; exact (Array.getElem?_eq_some_iff.1 x).1
    exact vr_image hG hR (h1.2 i _ _ (Array.getElem?_eq_getElem hlt) x)
  | number h1 _ => exact .number ⟨hR _ _ h1.1, rfl, rfl⟩ fun _ => id
  | view h0 h1 _ => exact .view (hV _ h0) ⟨hR _ _ h1.1, rfl, rfl⟩ fun _ => id
end

end Go.Proofs.Ytcgjppacnhmjlaa.Sim
end
