/- Own texts: FwO, FwP, FwQ. -/
import Derived.Test.YtcgjppacnhmjlaaFmBE

section
set_option linter.unusedVariables false
set_option linter.unusedSimpArgs false
set_option linter.unusedSectionVars false
/-! The call of treeOfPart, in company. -/
namespace Go.Proofs.Ytcgjppacnhmjlaa.Sim
open Go Go.Conc Go.ConcN Go.Conc.Lib Go.ConcR.Gen
open Go.ConcR (KK wgBlock WgAt stA smA rd wr mk Payload DC0)
set_option linter.unusedVariables false
set_option linter.unusedSectionVars false
set_option linter.unusedSimpArgs false

noncomputable abbrev Xm : Ctx := ctx Try.prog mfs true [103]
/-- The block in which a slice lies. -/
def InS (v : Value) (b : Nat) : Prop := ∃ o l c, v = .slice (some ⟨b, o, none⟩) l c
/-- What a worker's call leaves: no error, a tree of its own of these pairs; it is closed. -/
def RsP (part : Nat → Prop) (ps : List PP) (vt ve : Value) (M : Nat → Prop) (w : World) : Prop :=
  ve = .int .i64 0 ∧ ∃ n tp, vt = .pointer tp ∧ TreeN M n w tp (puts ps []) ∧ ∃ D : Nat → Prop, (∀ b, D b → M b) ∧ (∀ t, tp = some t → D t.block) ∧ ∀ b, D b → ∃ o, w.heap[b]? = some o ∧ BlkR Xm.vw Xm.G (fun a b => a = b ∧ (D a ∨ part a)) (fun _ _ => False) b o o
theorem RsP.keep {part : Nat → Prop} {ps : List PP} : ∀ (vt ve : Value) (M : Nat → Prop) (w w1 : World), (∀ b, M b → w1.heap[b]? = w.heap[b]?) → RsP part ps vt ve M w → RsP part ps vt ve M w1 := by
  rintro vt ve M w w1 hM ⟨h1, n, tp, h2, h3, D, d1, d2, d3⟩
  refine ⟨h1, n, tp, h2, ?_, D, d1, d2, fun b hb => ?_⟩
  · rcases h3 with h | ⟨t, h4, h5⟩
    · exact .inl h
    · exact .inr ⟨t, h4, h5.frame hM⟩
  · obtain ⟨o, o1, o2⟩ := d3 b hb
    exact ⟨o, (hM b (d1 b hb)).trans o1, o2⟩
theorem g_sub : ∀ f, wfs.contains f = true → mfs.contains f = true := by
  intro f hf
  have h : f ∈ wfs := by simpa using hf
  have key : ∀ g ∈ wfs, mfs.contains g = true := by decide
  exact key f h

noncomputable abbrev Xw : Ctx := ctx Try.prog wfs false []
theorem xw_vw : Xw.vw = fun _ => False := by
  funext u
  simp [ctx]
theorem xw_view : ∀ u, Xw.vw u → NoFl Xw.P u := fun u h => by rw [xw_vw] at h; exact h.elim

section
variable {p : Wp} {w : World} {Q : (Nat → Prop) → Goroutine → World → Prop}

/-- The lone memory: the part is frozen. -/
def frz (w : World) (k : Nat) (c : Array Value) (e : TypeId) : World := { w with heap := w.heap.setIfInBounds k (.cells c e (0, c.size)) }
theorem frz_size (w : World) (k : Nat) (c : Array Value) (e : TypeId) : (frz w k c e).heap.size = w.heap.size := by simp [frz]
theorem frz_at {w : World} {k : Nat} {c : Array Value} {e : TypeId} (h : k < w.heap.size) : (frz w k c e).heap[k]? = some (.cells c e (0, c.size)) := by simp [frz, h]
theorem frz_cell {w : World} {k o : Nat} {c : Array Value} {e : TypeId} {f : Nat × Nat} (h : w.heap[k]? = some (.cells c e f)) {v : Value} (hc : w.cell? ⟨k, o, none⟩ = some v) : (frz w k c e).cell? ⟨k, o, none⟩ = some v := by
  simp only [World.cell?, h] at hc
  simp only [World.cell?, frz_at (Array.getElem?_eq_some_iff.1 h).1]
  exact hc
theorem plain_vr {G : FuncId → Prop} {R : BR} {v : Value} (h : Plain1 v) : VR G R v v := by
  rcases h with ⟨s, rfl⟩ | ⟨k, n, rfl⟩
  · exact .string s
  · exact .int k n

/-- What the lone call leaves. -/
def PoP (ps : List PP) (B : Nat) (v : Value) (w : World) : Prop := ∃ n tp, v = .tuple #[.pointer tp, .int .i64 0] ∧ TreeN (fun k => B ≤ k) n w tp (puts ps [])
theorem PoP.re {ps : List PP} {B : Nat} : ∀ (v : Value) (w : World) (tp : Tape) (d : Nat), PoP ps B v w → PoP ps B v (re w tp d) := by
  rintro v w tp d ⟨n, tq, h1, h2⟩
  refine ⟨n, tq, h1, ?_⟩
  rcases h2 with h | ⟨t, h4, h5⟩
  · exact .inl h
  · exact .inr ⟨t, h4, h5.frame fun _ _ => rfl⟩

set_option maxRecDepth 100000 in
theorem res87 (t : Array Value) (w : World) (es : Array Event) : (results Try.f87 t).runT Try.prog w es = (.ok (.tuple #[t.getD 2 undef, t.getD 3 undef]) w, es) := by kernel_rfl

/-- The return from it. -/
theorem cog_ret87 {z : WZ} {M : Nat → Prop} {fr c : Frame} {cs : List Frame} (hfn : fr.fn = 87) (hm : fr.mode = .returning) (hd : fr.defers = []) (hk : fr.kind = .normal) (hn : CoG Try.prog z Q M (gor (c.finish (.tuple #[fr.tmps.getD 2 undef, fr.tmps.getD 3 undef])) cs) w) : CoG Try.prog z Q M (gor fr (c :: cs)) w := by
  refine .ctl rfl (fun w1 => ?_) hn
  have hf : Try.prog.funcs[fr.fn]? = some Try.f87 := by rw [hfn]; exact Try.func87
  have hT := res87 fr.tmps w1 #[]
  simp [stepG, unwind, gor, hm, hd, hf, hT, hk, doReturn, GStep.after, seen_none, -Sem.runT_eq]

theorem fn87 : ∃ fn c, Xw.P.funcs[87]? = some fn ∧ fn.body = some c := ⟨Try.f87, (Try.f87.body).getD .skip, Try.func87, by kernel_rfl⟩
theorem in87 : Xw.G 87 := show wfs.contains 87 = true from by decide

theorem call_lone (ok : p.Ok) {wl : World} {R : BR} {S : Nat → Nat → Prop} (hF : p.F w) (hsz : wl.heap.size = w.heap.size) (hd : ∀ a b, R a b → a = b) (hwl : WR Xw.vw Xw.P.globals.size Xw.G R (fun _ _ => False) wl wl) (hws : WR Xw.vw Xw.P.globals.size Xw.G R S wl w) (ha : AVR Xw.G R #[p.vP] #[p.vP])
    (hcl : ∀ a b, R a b → p.z.part b ∧ ∀ j, S a j) (hSR : ∀ a j, S a j → R a a ∧ InS p.vP a) (hc : ∀ tp, Calls Xw.P 87 #[p.vP] (re wl tp 0) fun e w' => ∃ v, e = .returned v ∧ PoP p.ps wl.heap.size v w') {c : Frame} {cs : List Frame}
    (hk : ∀ M' vt ve w', (∀ b, M' b → ¬ p.z.all b) → p.F w' → vt.oneCell' = true → ve.oneCell' = true → RsP (InS p.vP) p.ps vt ve M' w' → CoG Try.prog p.z Q M' (gor (c.finish (.tuple #[vt, ve])) cs) w') :
    CoG Try.prog p.z Q (fun _ => False) (gor (Frame.enter Try.prog 87 #[p.vP] .normal) (c :: cs)) w := by
  have hE := ev_callsF wgood xw_view in87 fn87 hd hwl ha PoP.re hc
  have hSt : StkR Xw Try.prog wfs false [] R (Frame.enter Xw.P 87 #[p.vP] .normal, []) (Frame.enter Xw.P 87 #[p.vP] .normal, []) := ⟨FrameR.enter wgood in87 ha fn87, .nil⟩
  have hcow := cow_of_ev wgood xw_vw rfl (z := { ro := p.z.part, Y := fun _ => False, i := 0 }) (S := S) (fun s hs => hs.1.1)
    (R0 := R) (Q := fun M fr' w' => ∃ R1 s, BR.Sub R R1 ∧ (LStop Xw.P (PoP p.ps wl.heap.size) s ∧ s.fr.fn = 87) ∧ WR Xw.vw Xw.P.globals.size Xw.G R1 S s.w w' ∧ FrameR Xw Try.prog wfs false [] R1 s.fr fr' ∧ Class { ro := p.z.part, Y := fun _ => False, i := 0 } M R1 S s.w)
    (fun R M s fr' w' h a b c d => ⟨R, s, h, a, b, c, d⟩) hE (R := R) (M := fun _ => False) (fr' := Frame.enter Try.prog 87 #[p.vP] .normal) (fs' := []) (w' := w) (BR.Sub.refl R)
    (by have := re_WR hws T0 w.tape 0 w.drawn; rwa [re_self] at this) hSt (fun a b hab => .inl (hcl a b hab)) (fun b => ⟨fun _ => ⟨id, id⟩, fun h => h.elim⟩) (fun b hb => hb.elim (fun h => hF.all b (.inr (.inr h))) (fun h => h.elim))
  refine cog_of_cow ok.out hcow (fun b hb => hb.elim) hF.all fun M' fr' w' a1 a2 a3 a4 a5 => ?_
  obtain ⟨R', s, hsub, ⟨⟨hs1, hs2, v, fn, hpost, hfn, hres⟩, h87⟩, hW, hFr, hCl⟩ := a5 w' (Ry.refl _ _ _)
  obtain rfl : fn = Try.f87 := by
    rw [h87] at hfn
    exact (Option.some.inj (hfn.symm.trans Try.func87))
  have hv : v = .tuple #[s.fr.tmps.getD 2 undef, s.fr.tmps.getD 3 undef] := by
    have h1 : (results Try.f87 s.fr.tmps).run Try.prog (re s.w T0 0) = .ok v (re s.w T0 0) := hres T0 0
    have h2 := congrArg Prod.fst (res87 s.fr.tmps (re s.w T0 0) #[])
    rw [Sem.runT_fst] at h2
    rw [h2] at h1
    cases h1
    rfl
  obtain ⟨n, tp, hv2, hT⟩ := hpost
  rw [hv2] at hv
  simp only [Value.tuple.injEq, Array.mk.injEq, List.cons.injEq, and_true] at hv
  obtain ⟨e2, e3⟩ := hv
  have get : ∀ (i : Nat) (u : Value), u = s.fr.tmps.getD i undef → u ≠ undef → VR Xw.G R' u (fr'.tmps.getD i undef) := by
    intro i u hu hne
    have hlt : i < s.fr.tmps.size := by
      apply Classical.byContradiction
      intro h
      rw [Array.getD_eq_getD_getElem?, Array.getElem?_eq_none (by omega)] at hu
      exact hne hu
    have hlt' : i < fr'.tmps.size := by rw [← hFr.tmps.1]; exact hlt
    rw [hu, Array.getD_eq_getD_getElem?, Array.getD_eq_getD_getElem?, Array.getElem?_eq_getElem hlt, Array.getElem?_eq_getElem hlt']
    exact hFr.tmps.2 i _ _ (Array.getElem?_eq_getElem hlt) (Array.getElem?_eq_getElem hlt')
  have r2 := get 2 _ e2 (by intro h; cases h)
  have r3 := get 3 _ e3 (by intro h; cases h)
  have hve := vr_int r3
  refine cog_ret87 (by rw [hFr.fn]; exact h87) (by rw [hFr.mode]; exact hs2) hFr.p'.defers hFr.p'.kind ?_
  have hM : ∀ b b', R' b b' → wl.heap.size ≤ b → M' b' := by
    intro b b' hbb hle
    rcases hCl b b' hbb with ⟨_, h⟩ | ⟨h, _⟩
    · have := hws.sl b 0 (h 0); omega
    · exact h
  have hSn : ∀ b, wl.heap.size ≤ b → ∀ i, ¬ S b i := fun b hb i h => by have := hws.sl b i h; omega
  have hF' := hF.ry ok a4
  have hRs : ∃ tp', fr'.tmps.getD 2 undef = .pointer tp' ∧ TreeN M' n w' tp' (puts p.ps []) ∧ ∀ t, tp' = some t → ∃ a, R' a t.block ∧ ∀ j, ¬ S a j := by
    rcases hT with ⟨rfl, hl⟩ | ⟨t, rfl, hR⟩
    · exact ⟨none, vr_nil r2, .inl ⟨rfl, hl⟩, fun t h => by cases h⟩
    · obtain ⟨t', q1, q2⟩ := vr_ptr r2
      exact ⟨_, q2, .inr ⟨t', rfl, wr_rep hW hSn hM n q1 hR⟩, fun u h => by cases h; exact ⟨t, q1, hSn t hR.lt.1⟩⟩
  obtain ⟨tp', q1, q2, q3⟩ := hRs
  refine hk M' _ _ w' a1 hF' (by rw [q1]; rfl) (by rw [hve]; rfl) ⟨hve, n, tp', q1, q2, fun b => ∃ a, R' a b ∧ ∀ j, ¬ S a j, fun b ⟨a, ha, hj⟩ => ?_, q3, fun b ⟨a, ha, hj⟩ => ?_⟩
  · rcases hCl a b ha with ⟨_, h⟩ | ⟨h, _⟩
    · exact absurd (h 0) (hj 0)
    · exact h
  · obtain ⟨o, o', o1, o2, o3⟩ := hW.blk a b ha
    refine ⟨o', o2, blk_image g_sub (fun u hu => by rw [xw_vw] at hu; exact hu.elim) (fun x y hxy => ⟨rfl, ?_⟩) hj o3⟩
    rcases hCl x y hxy with ⟨_, h⟩ | ⟨_, h⟩
    · obtain ⟨h1, h2⟩ := hSR x 0 (h 0)
      obtain rfl := hW.fine.fn x y x hxy (hsub _ _ h1)
      exact .inr h2
    · exact .inl ⟨x, hxy, h⟩

/-- ████ THE CALL OF treeOfPart, IN COMPANY. ████ -/
theorem call87 (ok : p.Ok) (hk64 : ∀ q ∈ p.ps, q.1.size ≤ 64) (hlen : p.ps.length ≤ 3000) : p.Call (RsP (InS p.vP) p.ps) Q := by
  intro w c cs hF hk
  rcases hF.pairs with ⟨hps, hv⟩ | ⟨k, o, cap, cc, e, f, h1, h2, h3, h4, h5, h6⟩
  · refine call_lone (w := w) ok (wl := w) (R := fun _ _ => False) (S := fun _ _ => False) hF rfl (fun a b h => h.elim) ⟨⟨fun a b c h => h.elim, fun a b c h => h.elim, fun a b h => h.elim⟩, ⟨hF.glob, hF.glob⟩, fun a i h => h.elim, fun a b h => h.elim⟩ ⟨⟨fun a b c h => h.elim, fun a b c h => h.elim, fun a b h => h.elim⟩, ⟨hF.glob, hF.glob⟩, fun a i h => h.elim, fun a b h => h.elim⟩ ⟨rfl, fun i v v' a b => ?_⟩ (fun a b h => h.elim) (fun a j h => h.elim) (fun tp => ?_) hk
    · rw [hv] at a b
      rw [a] at b; cases b
      match i with
      | 0 => simp at a; subst a; exact .snil 0 0
      | i + 1 => simp at a
    · refine (part_any (S := fun k => w.heap.size ≤ k) (w := re w tp 0) (ps := p.ps) (fun k hk => hk) (.inl ⟨hps, none, 0, hv⟩) hk64 hlen).mono ?_
      rintro e w' ⟨n, tq, rfl, hT, _⟩
      exact ⟨_, rfl, n, tq, rfl, hT⟩
  · have hlt := (Array.getElem?_eq_some_iff.1 h4).1
    have hvr : ∀ {R : BR}, AVP Xw.G R cc cc := fun {R} => ⟨Nat.le_refl _, fun i v v' a b => by rw [a] at b; cases b; exact plain_vr (h6 v (Array.mem_of_getElem? a))⟩
    have fine : BR.Fine Xw.P.globals.size (fun a b => a = k ∧ b = k) := ⟨fun a b c x y => x.2.trans y.2.symm, fun a b c x y => x.1.trans y.1.symm, fun a b x => by rw [x.1, x.2]⟩
    have hsz := frz_size w k cc e
    have glob : Xw.P.globals.size ≤ (frz w k cc e).heap.size := by rw [hsz]; exact hF.glob
    refine call_lone (w := w) ok (wl := frz w k cc e) (R := fun a b => a = k ∧ b = k) (S := fun a _ => a = k) hF hsz (fun a b h => h.1.trans h.2.symm)
      ⟨fine, ⟨glob, glob⟩, fun a i h => h.elim, fun a b h => ⟨.cells cc e (0, cc.size), .cells cc e (0, cc.size), by rw [h.1]; exact frz_at hlt, by rw [h.2]; exact frz_at hlt, .cells hvr (fun _ => .inl rfl) (fun _ => ⟨rfl, rfl⟩) (fun i h => h.elim)⟩⟩
      ⟨fine, ⟨glob, hF.glob⟩, fun a i h => by (have : a = k := h; rw [this, hsz]; exact hlt), fun a b h => ⟨.cells cc e (0, cc.size), .cells cc e f, by rw [h.1]; exact frz_at hlt, by rw [h.2]; exact h4, .cells hvr (fun ⟨i, hi⟩ => absurd h.1 hi) (fun hi => absurd h.1 (hi 0)) (fun i _ hi => ⟨Nat.zero_le _, hi⟩)⟩⟩
      ⟨rfl, fun i v v' a b => ?_⟩ (fun a b h => ⟨by rw [h.2]; exact h1, fun _ => h.1⟩) (fun a j h => ⟨⟨h, h⟩, o, p.ps.length, cap, by rw [h2]; show _ = Value.slice (some ⟨a, o, none⟩) _ _; rw [show a = k from h]⟩) (fun tp => ?_) hk
    · rw [h2] at a b
      rw [a] at b; cases b
      match i with
      | 0 => simp at a; subst a; exact .slice _ _ ⟨⟨rfl, rfl⟩, rfl, rfl⟩
      | i + 1 => simp at a
    · have hP : PairsAt (re (frz w k cc e) tp 0) k o p.ps := fun i q hi => ⟨frz_cell h4 (h5 i q hi).1, frz_cell h4 (h5 i q hi).2.1, frz_cell h4 (h5 i q hi).2.2.1, frz_cell h4 (h5 i q hi).2.2.2⟩
      refine (part_any (S := fun j => (frz w k cc e).heap.size ≤ j) (w := re (frz w k cc e) tp 0) (ps := p.ps) (fun j hj => hj) (.inr ⟨k, o, cap, h2, hP, h3⟩) hk64 hlen).mono ?_
      rintro e w' ⟨n, tq, rfl, hT, _⟩
      exact ⟨_, rfl, n, tq, rfl, hT⟩
end

end Go.Proofs.Ytcgjppacnhmjlaa.Sim
end

section
set_option linter.unusedVariables false
set_option linter.unusedSimpArgs false
set_option linter.unusedSectionVars false
/-! treeOfParts: the loop that starts the workers, in company. -/
namespace Go.Proofs.Ytcgjppacnhmjlaa.Sim
open Go Go.Conc Go.ConcN Go.Conc.Lib Go.ConcR.Gen
open Go.ConcR (KK wgBlock WgAt stA smA rd wr mk Payload DC0)
set_option linter.unusedVariables false
set_option linter.unusedSectionVars false
set_option linter.unusedSimpArgs false

def sq : Code → Code × Code
  | .seq a b => (a, b)
  | c => (c, c)
noncomputable def body50 : Code := (Try.f50.body).getD .skip
/-- What is behind the group's making. -/
noncomputable def rest4 : Code := (sq (sq (sq (sq body50).2).2).2).2
abbrev vps (Pb po n cap : Nat) : Value := .slice (some ⟨Pb, po, none⟩) n cap

section
variable (Pb po n cap b4 b5 Wg : Nat) (c : Frame) (cs : List Frame) (x : Nat → Value) (j : Int)
/-- treeOfParts, the group made. -/
noncomputable def gS50 : Goroutine := gor { Frame.enter Try.prog 50 #[vps Pb po n cap] .normal with tmps := #[vps Pb po n cap, x 1, x 2, x 3, ptr b4, ptr b5, ptr Wg, x 7, x 8, x 9, x 10, x 11, x 12, x 13, x 14, x 15, x 16, x 17, x 18, x 19, x 20, x 21, x 22, x 23, x 24, x 25, x 26, x 27, x 28, x 29, x 30, x 31, x 32, x 33, x 34, x 35, x 36, x 37, x 38, x 39, x 40, x 41, x 42, x 43, x 44, x 45, x 46, x 47, x 48, x 49], todo := [.code rest4] } (c :: cs)
/-- .. at the head of its loop. -/
noncomputable def gH50 : Goroutine := gor { (nxtN Try.prog true 11 (gS50 Pb po n cap b4 b5 Wg c cs x)).frame with tmps := #[vps Pb po n cap, x 1, x 2, x 3, ptr b4, ptr b5, ptr Wg, x 7, x 8, x 9, x 10, x 11, x 12, x 13, x 14, x 15, x 16, vps Pb po n cap, .int .i64 n, .int .i64 j, x 20, x 21, x 22, x 23, x 24, x 25, x 26, x 27, x 28, x 29, x 30, x 31, x 32, x 33, x 34, x 35, x 36, x 37, x 38, x 39, x 40, x 41, x 42, x 43, x 44, x 45, x 46, x 47, x 48, x 49] } (c :: cs)
def xF (fr : Frame) (i : Nat) : Value := (fr.tmps[i]?).getD undef
set_option maxRecDepth 100000 in
theorem h50_at : AtR (gH50 Pb po n cap b4 b5 Wg c cs x j) 0 := ⟨by kernel_rfl, by kernel_rfl, by kernel_rfl, by kernel_rfl⟩
/-- .. in its body, at the look-up of the part. -/
noncomputable def gB1 : Goroutine := nxtN Try.prog true 9 (setT (nxtN Try.prog true 1 (gH50 Pb po n cap b4 b5 Wg c cs x j)) 20 (.bool true))
set_option maxRecDepth 100000 in
theorem b1_at : AtR (gB1 Pb po n cap b4 b5 Wg c cs x j) 1 := ⟨by kernel_rfl, by kernel_rfl, by kernel_rfl, by kernel_rfl⟩
variable (k : Nat)
/-- .. at its load. -/
noncomputable def gB2 : Goroutine := putG (gB1 Pb po n cap b4 b5 Wg c cs x j) (.pointer (some ⟨Pb, k, none⟩))
set_option maxRecDepth 100000 in
theorem b2_at : AtR (gB2 Pb po n cap b4 b5 Wg c cs x j k) 2 := ⟨by kernel_rfl, by kernel_rfl, by kernel_rfl, by kernel_rfl⟩
variable (v : Value) (b7 b8 : Nat)
noncomputable def gB3 : Goroutine := putG (gB2 Pb po n cap b4 b5 Wg c cs x j k) v
noncomputable def gB4 : Goroutine := putG (gB3 Pb po n cap b4 b5 Wg c cs x j k v) (ptr b7)
noncomputable def gB5 : Goroutine := putG (gB4 Pb po n cap b4 b5 Wg c cs x j k v b7) (ptr b8)
set_option maxRecDepth 100000 in
theorem b5_at : AtR (gB5 Pb po n cap b4 b5 Wg c cs x j k v b7 b8) 5 := ⟨by kernel_rfl, by kernel_rfl, by kernel_rfl, by kernel_rfl⟩
noncomputable def gB6 : Goroutine := putG (gB5 Pb po n cap b4 b5 Wg c cs x j k v b7 b8) undef
set_option maxRecDepth 100000 in
theorem b6_at : AtR (gB6 Pb po n cap b4 b5 Wg c cs x j k v b7 b8) 6 := ⟨by kernel_rfl, by kernel_rfl, by kernel_rfl, by kernel_rfl⟩
noncomputable def gB7 : Goroutine := putG (gB6 Pb po n cap b4 b5 Wg c cs x j k v b7 b8) undef
/-- its frame at the call of Go. -/
noncomputable def fB : Frame := hdF (nxtN Try.prog true 4 (gB7 Pb po n cap b4 b5 Wg c cs x j k v b7 b8)).callers
end

end Go.Proofs.Ytcgjppacnhmjlaa.Sim
end

section
set_option linter.unusedVariables false
set_option linter.unusedSimpArgs false
set_option linter.unusedSectionVars false
/-! treeOfParts: the loop that starts the workers, and the wait for them. -/
namespace Go.Proofs.Ytcgjppacnhmjlaa.Sim
open Go Go.Conc Go.ConcN Go.Conc.Lib Go.ConcR.Gen
open Go.ConcR (KK wgBlock WgAt stA smA rd wr mk Payload DC0)
set_option linter.unusedVariables false
set_option linter.unusedSectionVars false
set_option linter.unusedSimpArgs false

/-- What a fork is about. -/
structure Fk where
  Pb : Nat
  po : Nat
  n : Nat
  cap : Nat
  b4 : Nat
  b5 : Nat
  T : Nat
  E : Nat
  vs : List Value
  pss : List (List PP)
/-- What worker x leaves. -/
def Fk.Res (k : Fk) (m x : Nat) (v : Value) (M : Nat → Prop) (w : World) : Prop :=
  ∃ vP ps, k.vs[x - m]? = some vP ∧ k.pss[x - m]? = some ps ∧ RsP (InS vP) ps v (.int .i64 0) M w ∧ w.cell? ⟨k.E, x - m, none⟩ = some (.int .i64 0)
noncomputable def Fk.C (k : Fk) (Wg m : Nat) (O : Nat → Prop) : FC := { P := Try.prog, ty := 147, Wg := Wg, T := k.T, E := k.E, n := k.n, m := m, O := O, Res := k.Res m }
theorem Fk.stable (k : Fk) (Wg m : Nat) (O : Nat → Prop) : (k.C Wg m O).Stable := by
  rintro x v M w w' hM hE ⟨vP, ps, h1, h2, h3, h4⟩
  exact ⟨vP, ps, h1, h2, h3.keep _ _ _ _ _ hM, hE.trans h4⟩

/-- What goroutine 0 knows of it. -/
structure Fk.F (k : Fk) (L : Nat → Prop) (w : World) : Prop where
  pb : L k.Pb
  cell : ∀ (i : Nat) v, k.vs[i]? = some v → w.cell? ⟨k.Pb, k.po + i, none⟩ = some v
  l4 : L k.b4
  c4 : w.cell? ⟨k.b4, 0, none⟩ = some (slc k.T k.n)
  l5 : L k.b5
  c5 : w.cell? ⟨k.b5, 0, none⟩ = some (slc k.E k.n)
  parts : ∀ (i : Nat) v ps, k.vs[i]? = some v → k.pss[i]? = some ps → PartAt L w v ps
  glob : Try.prog.globals.size ≤ w.heap.size
structure Fk.Ok (k : Fk) : Prop where
  len : k.vs.length = k.n ∧ k.pss.length = k.n ∧ k.n ≤ 16
  keys : ∀ ps ∈ k.pss, ps.length ≤ 3000 ∧ ∀ q ∈ ps, q.1.size ≤ 64
  ne : k.T ≠ k.E

section
variable {k : Fk} {L L' S : Nat → Prop} {w w1 : World}
theorem PartAt.mono {p p' : Nat → Prop} {v : Value} {ps : List PP} (h : PartAt p w v ps) (hp : ∀ b, p b → p' b) : PartAt p' w v ps := by
  rcases h with h | ⟨k, o, cap, c, e, f, h1, h2⟩
  · exact .inl h
  · exact .inr ⟨k, o, cap, c, e, f, hp k h1, h2⟩
theorem PartAt.inS {p p' : Nat → Prop} {v : Value} {ps : List PP} (h : PartAt p w v ps) : PartAt (fun b => InS v b ∨ p' b) w v ps := by
  rcases h with h | ⟨k, o, cap, c, e, f, h1, h2, h3⟩
  · exact .inl h
  · exact .inr ⟨k, o, cap, c, e, f, .inl ⟨o, ps.length, cap, h2⟩, h2, h3⟩
theorem PartAt.of_inS {p : Nat → Prop} {v : Value} {ps : List PP} (h : PartAt p w v ps) {b : Nat} (hb : InS v b) : p b := by
  obtain ⟨o, l, c, hv⟩ := hb
  rcases h with ⟨_, h⟩ | ⟨k, o', cap, c', e, f, h1, h2, h3⟩
  · rw [h] at hv; cases hv
  · rw [h2] at hv; cases hv; exact h1
theorem PartAt.one {p : Nat → Prop} {v : Value} {ps : List PP} (h : PartAt p w v ps) : v.oneCell' = true := by
  rcases h with ⟨_, h⟩ | ⟨k, o', cap, c', e, f, h1, h2, h3⟩
  · rw [h]; rfl
  · rw [h2]; rfl
theorem Fk.F.keep (h : k.F L w) (hs : w.heap.size ≤ w1.heap.size) (hL : ∀ b, L b → SameC w w1 b) : k.F L w1 :=
  ⟨h.pb, fun i v hi => same_cell (hL _ h.pb) (h.cell i v hi), h.l4, same_cell (hL _ h.l4) h.c4, h.l5, same_cell (hL _ h.l5) h.c5, fun i v ps h1 h2 => (h.parts i v ps h1 h2).keep hL, Nat.le_trans h.glob hs⟩
theorem Fk.F.rl (h : k.F L w) (hr : Rl S L w w1) : k.F L w1 := h.keep hr.size hr.same
theorem Fk.F.mono (h : k.F L w) (hL : ∀ b, L b → L' b) : k.F L' w :=
  ⟨hL _ h.pb, h.cell, hL _ h.l4, h.c4, hL _ h.l5, h.c5, fun i v ps h1 h2 => (h.parts i v ps h1 h2).mono hL, h.glob⟩

/-- What is read by somebody. -/
def Fk.Rd (k : Fk) (L0 : Nat → Prop) (b : Nat) : Prop := (∃ v ∈ k.vs, InS v b) ∨ b = k.b4 ∨ b = k.b5 ∨ ¬ L0 b

theorem rl_addB {n : Nat} (h : Rl S (addB L n) w w1) : Rl S L w w1 := ⟨h.size, fun b hb => h.same b (.inl hb), fun b hb => h.exact b (.inl hb), h.os, h.output⟩

theorem wk_of {Wg m J i : Nat} {O ro : Nat → Prop} {B1 B2 b8 b7 : Nat} {v : Value} {ps : List PP} (ok : k.Ok) (hJ : J + 1 = m + i) (hi : k.vs[i]? = some v) (hi2 : k.pss[i]? = some ps) (hro : ∀ b, ro b ↔ InS v b ∨ b = b8 ∨ b = k.b4 ∨ b = b7 ∨ b = k.b5) (hroL : ∀ b, ro b → L b) (hLT : ∀ b, L b → b ≠ k.T ∧ b ≠ k.E)
    (hF : k.F L w) (hwf : (k.C Wg m O).Wf w) (nTE : B1 ≠ k.T ∧ B1 ≠ k.E ∧ B2 ≠ k.T ∧ B2 ≠ k.E) (c8 : w.cell? ⟨b8, 0, none⟩ = some v) (c7 : w.cell? ⟨b7, 0, none⟩ = some (.int .i64 i)) (cg : w.cell? ⟨B1, 0, none⟩ = some (pwg Wg)) (cf : w.cell? ⟨B2, 0, none⟩ = some (fvv b8 k.b4 b7 k.b5)) :
    CoG Try.prog { T := k.T, E := k.E, i := J + 1 - m, part := fun b => ro b ∨ b = B1 ∨ b = B2 } ((k.C Wg m O).pr (J + 1)) (fun _ => False) (kid B1 B2) w := by
  have ei : J + 1 - m = i := by omega
  have hlen := ok.len
  have hilt : i < k.n := by have := (List.getElem?_eq_some_iff.1 hi).1; omega
  obtain ⟨kk1, kk2⟩ := ok.keys ps (List.mem_of_getElem? hi2)
  let p : Wp := { z := { T := k.T, E := k.E, i := J + 1 - m, part := fun b => ro b ∨ b = B1 ∨ b = B2 }, n := k.n, Wg := Wg, vP := v, ps := ps, B1 := B1, B2 := B2, b8 := b8, b4 := k.b4, b7 := b7, b5 := k.b5 }
  have hblk : ∀ {b : Nat} {u : Value}, w.cell? ⟨b, 0, none⟩ = some u → b < w.heap.size := fun {b u} h => World.block_lt_of_cell? _ _ h
  have hpok : p.Ok := by
    refine ⟨⟨.inl ((hro _).2 (.inr (.inl rfl))), .inl ((hro _).2 (.inr (.inr (.inl rfl)))), .inl ((hro _).2 (.inr (.inr (.inr (.inl rfl))))), .inl ((hro _).2 (.inr (.inr (.inr (.inr rfl))))), .inr (.inl rfl), .inr (.inr rfl)⟩, ⟨?_, ?_⟩, ok.ne, by show J + 1 - m < k.n; omega⟩
    · rintro (h | h | h)
      · exact (hLT _ (hroL _ h)).1 rfl
      · exact nTE.1 h.symm
      · exact nTE.2.2.1 h.symm
    · rintro (h | h | h)
      · exact (hLT _ (hroL _ h)).2 rfl
      · exact nTE.2.1 h.symm
      · exact nTE.2.2.2 h.symm
  have hpF : p.F w := by
    obtain ⟨tc, t1, t2⟩ := hwf.T
    obtain ⟨ec, ee, ef, e1, e2, e3⟩ := hwf.E
    subst e3
    refine ⟨c8, hF.c4, by show w.cell? ⟨b7, 0, none⟩ = some (.int .i64 ((J + 1 - m : Nat) : Int)); rw [ei]; exact c7, hF.c5, cg, cf, ⟨tc, _, t1, t2⟩, ⟨ec, ee, e1, e2⟩, ?_, ?_, hF.glob⟩
    · rintro b (h | h | h | h | h)
      · rw [h]; exact (Array.getElem?_eq_some_iff.1 t1).1
      · rw [h]; exact (Array.getElem?_eq_some_iff.1 e1).1
      · rcases (hro b).1 h with h | h | h | h | h
        · have := (hF.parts i v ps hi hi2)
          rcases this with ⟨_, h2⟩ | ⟨k', o, cap, c', e', f', h1, h2, h3, h4, _⟩
          · obtain ⟨o, l, c, hv⟩ := h; rw [h2] at hv; cases hv
          · obtain ⟨o, l, c, hv⟩ := h; rw [h2] at hv; cases hv; exact (Array.getElem?_eq_some_iff.1 h4).1
        · rw [h]; exact hblk c8
        · rw [h]; exact hblk hF.c4
        · rw [h]; exact hblk c7
        · rw [h]; exact hblk hF.c5
      · rw [h]; exact hblk cg
      · rw [h]; exact hblk cf
    · have := (hF.parts i v ps hi hi2).inS (p' := fun _ => False)
      exact this.mono fun b hb => .inl ((hro b).2 (.inl (hb.elim id False.elim)))
  refine wk_kid (p := p) (Rs := RsP (InS v) ps) (C := k.C Wg m O) (x := J + 1) rfl rfl hpok ⟨rfl, rfl, rfl⟩ rfl hpF RsP.keep (call87 hpok kk2 kk1) fun vt ve M w hRs hE => ?_
  obtain rfl := hRs.1
  refine ⟨v, ps, ?_, ?_, hRs, hE⟩
  · rw [show J + 1 - m = i from ei]; exact hi
  · rw [show J + 1 - m = i from ei]; exact hi2
end

end Go.Proofs.Ytcgjppacnhmjlaa.Sim
end
