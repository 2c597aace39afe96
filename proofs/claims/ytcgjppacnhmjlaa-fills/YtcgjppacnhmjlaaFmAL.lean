/- Own texts: SimW, FwA, FwB, FwC. -/
import Derived.Test.YtcgjppacnhmjlaaFmAG
import Derived.Test.YtcgjppacnhmjlaaProg
import Derived.Test.YtcgjppacnhmjlaaFmAK
import Derived.Conc.WgGenW
import Derived.Conc.WgArith

section
set_option linter.unusedVariables false
set_option linter.unusedSimpArgs false
set_option linter.unusedSectionVars false
/-! The program's functions are such. -/
namespace Go.Proofs.Ytcgjppacnhmjlaa.Sim
open Go Go.Conc
set_option linter.unusedVariables false

def wfs : List Nat := [31, 47, 49, 62, 78, 84, 87, 90, 100, 102, 103, 104, 105, 124, 125, 126]
def okFn (P : Program) (fs : List Nat) (fz : Bool) (vs : List Nat) (f : Nat) : Bool :=
  match P.funcs[f]? with
  | some fn => !(fn.name == "runtime.NumGoroutine") && (match fn.body with | some c => okCode P fs fz vs c | none => false)
  | none => false
theorem wok : wfs.all (okFn Try.prog wfs false []) = true := by kernel_rfl


def mfs : List Nat := [87, 8, 9, 19, 20, 22, 23, 24, 31, 45, 46, 47, 48, 49, 51, 52, 53, 54, 62, 63, 64, 67, 78, 82, 83, 84, 89, 90, 91, 92, 95, 100, 101, 102, 103, 104, 105, 124, 125, 126]
theorem mok : (mfs.filter fun f => f != 63 && f != 67).all (okFn Try.prog mfs true [103]) = true := by kernel_rfl

/-- No float in the type. -/
def noFl (P : Program) : Nat → TypeId → Bool
  | 0, _ => true
  | d + 1, t => match P.underlying t with
    | some (.struct fs) => fs.all fun f => noFl P d f.type
    | some (.array _ e) => noFl P d e
    | some (.float _) | some (.complex _) => false
    | _ => true
theorem noFl_of {P : Program} : ∀ (d d' : Nat) {t : TypeId}, noFl P d t = true → d' ≤ d → ∀ off v, plainCell P d' t off = some v → (∃ b, v = .bool b) ∨ ∃ k n, v = .int k n
  | _, 0, t, h, hd, off, v, hv => by simp [plainCell] at hv
  | 0, d' + 1, t, h, hd, off, v, hv => by omega
  | d + 1, d' + 1, t, h, hd, off, v, hv => by
    unfold plainCell at hv
    unfold noFl at h
    cases hu : P.underlying t with
    | none => rw [hu] at hv; cases hv
    | some ds =>
      rw [hu] at hv h
      cases ds with
      | struct fs =>
        dsimp only at hv h
        obtain ⟨f, hf, hv⟩ := Array.exists_of_findSome?_eq_some hv
        split at hv
        · exact noFl_of d d' ((Array.all_eq_true_iff_forall_mem.1 h) f hf) (by omega) _ v hv
        · cases hv
      | array n e =>
        dsimp only at hv h
        split at hv
        · cases hv
        · exact noFl_of d d' h (by omega) _ v hv
      | bool =>
        dsimp only at hv
        split at hv
        · cases hv; exact .inl ⟨_, rfl⟩
        · cases hv
      | int k =>
        dsimp only at hv
        split at hv
        · cases hv; exact .inr ⟨_, _, rfl⟩
        · cases hv
      | float k => cases h
      | complex k => cases h
      | _ => cases hv
theorem nofl103 : NoFl Try.prog 103 := noFl_of Try.prog.depth Try.prog.depth (by kernel_rfl) (Nat.le_refl _)

theorem okFn_spec {P : Program} {fs vs : List Nat} {fz : Bool} {f : Nat} (h : okFn P fs fz vs f = true) : ∃ fn c, P.funcs[f]? = some fn ∧ (fn.name == "runtime.NumGoroutine") = false ∧ fn.body = some c ∧ okCode P fs fz vs c = true := by
  unfold okFn at h
  cases hf : P.funcs[f]? with
  | none => rw [hf] at h; cases h
  | some fn =>
    rw [hf] at h
    dsimp only at h
    rw [Bool.and_eq_true] at h
    cases hb : fn.body with
    | none => rw [hb] at h; cases h.2
    | some c =>
      rw [hb] at h
      exact ⟨fn, c, rfl, by simpa using h.1, hb, h.2⟩
theorem wgood : Good (ctx Try.prog wfs false []) Try.prog wfs false [] := by
  have hw : ∀ f, wfs.contains f = true → okFn Try.prog wfs false [] f = true := fun f hf => (List.all_eq_true.1 wok) f (by simpa using hf)
  refine ⟨rfl, ⟨fun f hf => ?_⟩, fun f fn c hf hfn hb => ?_⟩
  · obtain ⟨fn, c, h1, h2, h3, _⟩ := okFn_spec (hw f hf)
    exact ⟨fn, h1, h2, .inl ⟨c, h3⟩⟩
  · obtain ⟨fn', c', h1, h2, h3, h4⟩ := okFn_spec (hw f hf)
    rw [show Try.prog.funcs[f]? = some fn from hfn] at h1
    cases h1
    rw [hb] at h3; cases h3
    exact h4

theorem ext63 : ∃ fn, Try.prog.funcs[63]? = some fn ∧ (fn.name == "runtime.NumGoroutine") = false ∧ fn.body = none ∧ Extern.findNext fn = none ∧ Extern.find fn = some (Extern.Atomic.loadT .ptr) := ⟨Try.prog.funcs.getD 63 default, by kernel_rfl, by kernel_rfl, by kernel_rfl, by kernel_rfl, by kernel_rfl⟩
theorem ext67 : ∃ fn, Try.prog.funcs[67]? = some fn ∧ (fn.name == "runtime.NumGoroutine") = false ∧ fn.body = none ∧ Extern.findNext fn = none ∧ Extern.find fn = some (Extern.Atomic.casT .ptr) := ⟨Try.prog.funcs.getD 67 default, by kernel_rfl, by kernel_rfl, by kernel_rfl, by kernel_rfl, by kernel_rfl⟩
theorem mgood : Good (ctx Try.prog mfs true [103]) Try.prog mfs true [103] := by
  have hw : ∀ f, mfs.contains f = true → f ≠ 63 → f ≠ 67 → okFn Try.prog mfs true [103] f = true := fun f hf h1 h2 => (List.all_eq_true.1 mok) f (by simp [h1, h2]; simpa using hf)
  refine ⟨rfl, ⟨fun f hf => ?_⟩, fun f fn c hf hfn hb => ?_⟩
  · by_cases h1 : f = 63
    · subst h1
      obtain ⟨fn, h1, h2, h3, h4, h5⟩ := ext63
      exact ⟨fn, h1, h2, .inr ⟨h3, h4, _, h5, fun R xs xs' _ h => r_loadP h⟩⟩
    · by_cases h2 : f = 67
      · subst h2
        obtain ⟨fn, h1, h2, h3, h4, h5⟩ := ext67
        exact ⟨fn, h1, h2, .inr ⟨h3, h4, _, h5, fun R xs xs' hfi h => r_casP rfl hfi h⟩⟩
      · obtain ⟨fn, c, k1, k2, k3, _⟩ := okFn_spec (hw f hf h1 h2)
        exact ⟨fn, k1, k2, .inl ⟨c, k3⟩⟩
  · have hne : ∀ n, (∃ fn, Try.prog.funcs[n]? = some fn ∧ (fn.name == "runtime.NumGoroutine") = false ∧ fn.body = none ∧ True) → f ≠ n := by
      rintro n ⟨fn', k1, _, k3, _⟩ rfl
      rw [show Try.prog.funcs[f]? = some fn from hfn] at k1
      cases k1
      rw [hb] at k3; cases k3
    obtain ⟨x1, a1, a2, a3, _⟩ := ext63
    obtain ⟨x2, b1, b2, b3, _⟩ := ext67
    obtain ⟨fn', c', h1, h2, h3, h4⟩ := okFn_spec (hw f hf (hne 63 ⟨x1, a1, a2, a3, trivial⟩) (hne 67 ⟨x2, b1, b2, b3, trivial⟩))
    rw [show Try.prog.funcs[f]? = some fn from hfn] at h1
    cases h1
    rw [hb] at h3; cases h3
    exact h4
theorem mview : ∀ u, (ctx Try.prog mfs true [103]).vw u → NoFl (ctx Try.prog mfs true [103]).P u := by
  intro u hu
  have : u = 103 := by
    have : [103].contains u = true := hu
    simpa using this
  subst this
  exact nofl103

end Go.Proofs.Ytcgjppacnhmjlaa.Sim
end

section
set_option linter.unusedVariables false
set_option linter.unusedSimpArgs false
set_option linter.unusedSectionVars false
/-! The group's functions in the program. -/
namespace Go.Proofs.Ytcgjppacnhmjlaa.Sim
open Go Go.Conc Go.ConcR Go.RowKit Go.Conc.Lib

abbrev link : Go.Conc.Lib.WgLink := { add := 106, done := 109, wait := 88, relMerge := 127, disable := 110, enable := 112, inBubble := 118, associate := 128, fatal := 129, uOr := 130, uAdd := 131, raceRead := 132, uLoad := 111, uStore := 133, disassociate := 116, semrelease := 134, acquire := 113, isAssociated := 114, uCas := 115, raceWrite := 117, semacquire := 119, orU64 := 143, addU64 := 144, loadU64 := 135, storeU64 := 145, casU64 := 136, tWgP := 165, tUP := 74, tAssoc := 184, tWg := 147, tAU := 144, tU64 := 60, tUint := 168, tU32 := 145, tPU32 := 173, tPAU := 190, tPU64 := 192, tNoCopy := 141, tANoCopy := 73, tAlign64 := 142 }
theorem wgLib : Go.Conc.Lib.WgLib Try.prog link :=
  ⟨Try.func106, Try.func109, Try.func88, Try.func127, Try.func110, Try.func112, Try.func118, Try.func128, Try.func129, Try.func130, Try.func131, Try.func132, Try.func111, Try.func133, Try.func116, Try.func134, Try.func113, Try.func114, Try.func115, Try.func117, Try.func119, Try.func143, Try.func144, Try.func135, Try.func145, Try.func136, Try.underlying165, Try.runUnderlying165, Try.sizeOf165, Try.isAgg165, Try.zeroValue165, Try.underlying74, Try.runUnderlying74, Try.sizeOf74, Try.isAgg74, Try.zeroValue74, Try.underlying184, Try.runUnderlying184, Try.sizeOf184, Try.isAgg184, Try.zeroValue184, Try.underlying147, Try.runUnderlying147, Try.sizeOf147, Try.isAgg147, Try.zeroValue147, Try.underlying144, Try.runUnderlying144, Try.sizeOf144, Try.isAgg144, Try.zeroValue144, Try.underlying60, Try.runUnderlying60, Try.sizeOf60, Try.isAgg60, Try.zeroValue60, Try.underlying168, Try.runUnderlying168, Try.sizeOf168, Try.isAgg168, Try.zeroValue168, Try.underlying145, Try.runUnderlying145, Try.sizeOf145, Try.isAgg145, Try.zeroValue145, Try.underlying173, Try.runUnderlying173, Try.sizeOf173, Try.isAgg173, Try.zeroValue173, Try.underlying190, Try.runUnderlying190, Try.sizeOf190, Try.isAgg190, Try.zeroValue190, Try.underlying192, Try.runUnderlying192, Try.sizeOf192, Try.isAgg192, Try.zeroValue192, Try.underlying0, Try.runUnderlying0, Try.sizeOf0, Try.isAgg0, Try.zeroValue0, Try.underlying3, Try.runUnderlying3, Try.sizeOf3, Try.isAgg3, Try.zeroValue3, Try.underlying4, Try.runUnderlying4, Try.sizeOf4, Try.isAgg4, Try.zeroValue4, Try.underlying9, Try.runUnderlying9, Try.sizeOf9, Try.isAgg9, Try.zeroValue9, Try.underlying20, Try.runUnderlying20, Try.sizeOf20, Try.isAgg20, Try.zeroValue20, Try.underlying21, Try.runUnderlying21, Try.sizeOf21, Try.isAgg21, Try.zeroValue21, (by kernel_rfl), (by kernel_rfl)⟩

/-- The cells that the workers fill are pointers to trees. -/
instance : Payload := ⟨93⟩
end Go.Proofs.Ytcgjppacnhmjlaa.Sim
end

section
set_option linter.unusedVariables false
set_option linter.unusedSimpArgs false
set_option linter.unusedSectionVars false
/-! Steps that are reckoned by the kernel; segments. -/
namespace Go.Proofs.Ytcgjppacnhmjlaa.Sim
open Go Go.Conc Go.ConcN
open Go.ConcR (KK wgBlock WgAt stA smA rd wr mk Payload DC0)
set_option linter.unusedVariables false
set_option linter.unusedSectionVars false

/-- Where a step that looks at nothing leads. -/
noncomputable def nxt (P : Program) (main : Bool) (g : Goroutine) : Goroutine := match stepG P main g default with | .go g1 _ _ => g1 | _ => g
noncomputable def nxtN (P : Program) (main : Bool) : Nat → Goroutine → Goroutine
  | 0, g => g
  | n + 1, g => nxtN P main n (nxt P main g)
/-- So many steps that look at nothing. -/
def Idle (P : Program) (main : Bool) : Nat → Goroutine → Prop
  | 0, _ => True
  | n + 1, g => g.status = .running ∧ (∀ w, stepG P main g w = .go (nxt P main g) w #[]) ∧ Idle P main n (nxt P main g)

section
variable [Payload] {C : FC} {S L : Nat → Prop} {J : Nat} {gh : Nat → Gh} {gs : Array Goroutine} {w w' : World} {t : Trace} {p vb d0 : Nat} {Mo : (Nat → Gh) → Int → Int → Prop}
  {Post : Value → World → Prop} {fr : Frame} {cs : List Frame} {w0 : World} {g : Goroutine}

/-- Goroutine 0 stands so, whatever it is. -/
def OFg (C : FC) (Post : Value → World → Prop) (S L : Nat → Prop) (J : Nat) (Mo : (Nat → Gh) → Int → Int → Prop) (d0 : Nat) (g : Goroutine) (w0 : World) : Prop :=
  ∀ w gs sl t gh, Rl S L w0 w → gs[0]? = some g → Sit C S L J Mo d0 gh gs w t → Fin C.P Post (crowd gs w sl) t
theorem OFg.toF (h : OFg C Post S L J Mo d0 (gor fr cs) w0) : OFin C Post S L J Mo d0 fr cs w0 := h
theorem OFin.toG (h : OFin C Post S L J Mo d0 fr cs w0) : OFg C Post S L J Mo d0 (gor fr cs) w0 := h

theorem OFg.of_main (hS : C.Stable) (hk : Kp C J Mo) (hrun : g.status = .running)
    (h : ∀ w gs sl t gh, Rl S L w0 w → gs[0]? = some g → Sit C S L J Mo d0 gh gs w t → ∃ m' ops, runT C.P (crowd gs w sl) 0 = (.next m', ops) ∧ Fin C.P Post m' (t ++ ops)) : OFg C Post S L J Mo d0 g w0 := by
  intro w gs sl t gh
  induction GLt.acc J gh generalizing w gs sl t with
  | intro gh _ ih =>
    intro hrl h0 hs
    refine Fin.pick (hs.awake h0 (awake_of (.inl hrun))) ⟨0, _, h0, hrun⟩ fun i gi d sl' hi hg => .inl ?_
    have hs' := hs.at hS d
    have hrl' := hrl.trans (Rl.at S L w d)
    rcases Nat.eq_zero_or_pos i with rfl | hpos
    · exact h (w.at d) gs sl' t gh hrl' h0 hs'
    · have hiJ : i ≤ J := by
        have := (Array.getElem?_eq_some_iff.1 hi).1
        have := hs.inv.sz
        omega
      obtain ⟨g', w', es, gh', a1, a2, a3, a4, _⟩ := sit_oth hk hs' hpos hiJ hi hg
      have hi0 : (i == 0) = false := by simp; omega
      refine ⟨_, _, runT_crowd_go (P := C.P) (sl := sl') (i := i) hi (by rw [hi0]; exact a1), ?_⟩
      refine ih gh' a3 w' _ sl' _ (hrl'.trans a4) ?_ a2
      rw [Array.getElem?_setIfInBounds_ne (by omega), Array.getElem?_map, h0]
      simp [woken_run hrun]
/-- A step that leaves the group alone. -/
theorem OFg.step (hS : C.Stable) (hk : Kp C J Mo) (hrun : g.status = .running) (h : ∀ w, Rl S L w0 w → C.Wf w → (∀ b, L b → b < w.heap.size ∧ ¬ C.O b) → ∃ g' w' es, stepG C.P true g w = .go g' w' es ∧ Zs C.Wg S L w w' ∧ w'.heap[C.Wg]? = w.heap[C.Wg]? ∧ (∀ e ∈ es, EvZ C.Wg S (grow L w w') e) ∧ OFg C Post S (grow L w w') J Mo (deafBehind d0 es) g' w') : OFg C Post S L J Mo d0 g w0 := by
  refine .of_main hS hk hrun fun w gs sl t gh hr h0 hs => ?_
  obtain ⟨g', w', es, h1, h2, h3, h4, h5⟩ := h w hr hs.inv.wf fun b hb => ⟨(hs.inv.hL b hb).1, (hs.inv.hL b hb).2.2.2⟩
  obtain ⟨st, sm, m1, m2⟩ := hs.mo
  have hlt : 0 < gs.size := (Array.getElem?_eq_some_iff.1 h0).1
  refine ⟨_, _, runT_crowd_go (P := C.P) (sl := sl) (i := 0) h0 (show stepG C.P (0 == 0) _ _ = _ from h1), ?_⟩
  exact h5 w' _ sl _ gh (.refl _ _ _) (by simp [hlt]) (sit_zero hS hs h0 h2 h4 (m1.of_block h3) m2)
theorem OFg.base (h : OFg C Post S L J Mo d0 g w0) (hr : Rl S L w0 w) : OFg C Post S L J Mo d0 g w := fun w1 gs sl t gh h1 h2 h3 => h w1 gs sl t gh (hr.trans h1) h2 h3
/-- It looks at the world, and lists what it does. -/
theorem OFg.look {g' : Goroutine} {d1 : Nat} (hS : C.Stable) (hk : Kp C J Mo) (hrun : g.status = .running) (h : ∀ w, Rl S L w0 w → C.Wf w → ∃ es, stepG C.P true g w = .go g' w es ∧ (∀ e ∈ es, EvZ C.Wg S L e) ∧ deafBehind d0 es = d1) (hn : OFg C Post S L J Mo d1 g' w0) : OFg C Post S L J Mo d0 g w0 :=
  .step hS hk hrun fun w hr hf _ => by
    obtain ⟨es, h1, h2, h3⟩ := h w hr hf
    exact ⟨g', w, es, h1, .refl .., rfl, by rw [← grow_idle L w]; exact h2, by rw [← grow_idle L w, h3]; exact hn.base hr⟩
theorem OFg.idle (hS : C.Stable) (hk : Kp C J Mo) (hrun : g.status = .running) (h : ∀ w, C.Wf w → ∃ g', stepG C.P true g w = .go g' w #[] ∧ OFg C Post S L J Mo d0 g' w0) : OFg C Post S L J Mo d0 g w0 :=
  .step hS hk hrun fun w hr hf _ => by
    obtain ⟨g', h1, h2⟩ := h w hf
    exact ⟨g', w, #[], h1, .refl .., rfl, fun e he => by simp at he, by rw [← grow_idle L w]; exact h2.base hr⟩
/-- A step that says one thing. -/
theorem OFg.say {e : Event} {d1 : Nat} (hS : C.Stable) (hk : Kp C J Mo) (hrun : g.status = .running) (h : ∀ w, stepG C.P true g w = .go (nxt C.P true g) w #[e]) (he : EvZ C.Wg S L e) (hd : deafBehind d0 #[e] = d1) (hn : OFg C Post S L J Mo d1 (nxt C.P true g) w0) : OFg C Post S L J Mo d0 g w0 :=
  .look hS hk hrun (fun w _ _ => ⟨_, h w, fun e' he' => by simp at he'; subst he'; exact he, hd⟩) hn
theorem OFg.std (h : g = gor g.frame g.callers) (hn : OFin C Post S L J Mo d0 g.frame g.callers w0) : OFg C Post S L J Mo d0 g w0 := by rw [h]; exact hn
/-- A value may be said otherwise. -/
def setT (g : Goroutine) (i : Nat) (v : Value) : Goroutine := { g with frame := { g.frame with tmps := g.frame.tmps.setIfInBounds i v } }
theorem OFg.val {i : Nat} {v v' : Value} (h : g = setT g i v) (hv : v = v') (hn : OFg C Post S L J Mo d0 (setT g i v') w0) : OFg C Post S L J Mo d0 g w0 := by rw [h, hv]; exact hn
theorem OFg.kern (hS : C.Stable) (hk : Kp C J Mo) : ∀ {n : Nat} {g : Goroutine}, Idle C.P true n g → OFg C Post S L J Mo d0 (nxtN C.P true n g) w0 → OFg C Post S L J Mo d0 g w0
  | 0, _, _, h => h
  | n + 1, g, hi, h => .idle hS hk hi.1 fun w _ => ⟨_, hi.2.1 w, OFg.kern hS hk hi.2.2 h⟩

/-- What goroutine 0 knows of the group between its steps on it. -/
def Rm (C : FC) (w w1 : World) : Prop := WgLive C.ty C.Wg w → WgLive C.ty C.Wg w1
/-- ████ A SEGMENT. ████ -/
theorem OFg.seg (hS : C.Stable) (hk : Kp C J Mo) : ∀ {n : Nat} {g : Goroutine} {w : World}, Goes C.P true (Rm C) DC0 (fun g _ => OFg C Post S L J Mo d0 g w0) n g w → OFg C Post S L J Mo d0 g w0
  | 0, g, w, h => fun w1 gs sl t gh h1 h2 h3 => h w1 (fun _ => h3.inv.wf.wg) w1 gs sl t gh h1 h2 h3
  | n + 1, g, w, h => by
    rcases h with h | ⟨hrun, h⟩
    · exact fun w1 gs sl t gh h1 h2 h3 => h w1 (fun _ => h3.inv.wf.wg) w1 gs sl t gh h1 h2 h3
    · refine .idle hS hk hrun fun w1 hf => ?_
      have := h w1 fun _ => hf.wg
      cases hs : stepG C.P true g w1 with
      | go g' w' es =>
        rw [hs, goes_go] at this
        obtain ⟨⟨rfl, rfl⟩, h2⟩ := this
        exact ⟨g', rfl, OFg.seg hS hk h2⟩
      | _ => rw [hs] at this; exact this.elim
end

section
variable {P : Program} {z : WZ} {Q : (Nat → Prop) → Goroutine → World → Prop} {M : Nat → Prop} {g : Goroutine} {w : World}
theorem CoG.kern : ∀ {n : Nat} {g : Goroutine}, Idle P false n g → CoG P z Q M (nxtN P false n g) w → CoG P z Q M g w
  | 0, _, _, h => h
  | n + 1, g, hi, h => .ctl hi.1 hi.2.1 (CoG.kern hi.2.2 h)
theorem quits_kern : ∀ {n q d : Nat} {g : Goroutine}, Idle P false n g → QuitsD P q d (nxtN P false n g) → QuitsD P (q + n) d g
  | 0, _, _, _, _, h => h
  | n + 1, q, d, g, hi, h => .inr ⟨hi.1, nxt P false g, #[], fun e he => by simp at he, hi.2.1, quits_kern hi.2.2 h⟩
end

attribute [irreducible] nxt nxtN
end Go.Proofs.Ytcgjppacnhmjlaa.Sim
end

section
set_option linter.unusedVariables false
set_option linter.unusedSimpArgs false
set_option linter.unusedSectionVars false
/-! Goroutine 0's atomic words on the group, in company. -/
namespace Go.Proofs.Ytcgjppacnhmjlaa.Sim
open Go Go.Conc Go.ConcN Go.Conc.Lib Go.ConcR.Gen
open Go.ConcR (KK wgBlock WgAt stA smA rd wr mk Payload DC0)
set_option linter.unusedVariables false
set_option linter.unusedSectionVars false

/-! Where it stands in a region. -/
def opsG (g : Goroutine) : Array Oper := match g.frame.todo with | .inRegion ops _ :: _ => ops | _ => #[]
def oG (g : Goroutine) : Oper := match g.frame.todo with | .inRegion ops (i :: _) :: _ => (ops[i]?).getD default | _ => default
def restG (g : Goroutine) : List Nat := match g.frame.todo with | .inRegion _ (_ :: r) :: _ => r | _ => []
def kG (g : Goroutine) : List Item := match g.frame.todo with | _ :: k => k | _ => []
abbrev aG (g : Goroutine) : Act := ⟨g.frame.tmps, g.frame.defers⟩
/-- The same, said in pieces. -/
def atG (g : Goroutine) (i : Nat) : Goroutine := G (g.frame.at (aG g) (.inRegion (opsG g) (i :: restG g) :: kG g)) g.callers
/-- Behind the operation, its value given. -/
def putG (g : Goroutine) (v : Value) : Goroutine := G (g.frame.at ((aG g).put (oG g).dst v) (.inRegion (opsG g) (restG g) :: kG g)) g.callers

section
variable {f : FuncId} {fn : Func} {w : World} {g : Goroutine} {i : Nat} {ats : Array TypeId} {main : Bool} {P : Program}
/-- What is asked of it so that the laws of entries speak of it. -/
structure AtOp (P : Program) (g : Goroutine) (i : Nat) (f : FuncId) (aa : Array Operand) (ats : Array TypeId) (fn : Func) : Prop where
  eq : g = atG g i
  op : (opsG g)[i]? = some (oG g)
  wanted : Region.wanted (oG g) (yielded (opsG g) g.frame.tmps) = true
  kind : (g.frame.kind == .early) = false
  call : (oG g).op = .call { callee := .value (.func f), args := aa, argTypes := ats }
  func : P.funcs[f]? = some fn
  name : (fn.name == "runtime.NumGoroutine") = false
  body : fn.body.isNone = true
  next : (Extern.findNext fn).isNone = true
theorem AtOp.ne {aa : Array Operand} (h : AtOp P g i f aa ats fn) : g.frame.kind ≠ .early := by have := h.kind; simpa using this
theorem AtOp.nx {aa : Array Operand} (h : AtOp P g i f aa ats fn) : Extern.findNext fn = none := by simpa using h.next

theorem step_add {x y : Operand} (h : AtOp P g i f #[x, y] ats fn) (k : IntKind) (he : Extern.find fn = some (Extern.Atomic.update (Op.intArith .add) k true)) {ad : Addr} {v d : Int} (hx : (aG g).eval x = .pointer (some ad)) (hy : (aG g).eval y = .int k d) (hc : w.cell? ad = some (.int k v)) (hz : w.frozen? ad = false) :
    stepG P main g w = .go (putG g (.int k (k.wrap (v + d)))) (w.setCell ad (.int k (k.wrap (v + d)))) #[⟨.cell ad, false, true⟩, ⟨.cell ad, true, true⟩] := by
  rw [show stepG P main g w = stepG P main (atG g i) w by rw [← h.eq]]
  exact stepG_add_atomic h.op h.wanted h.ne h.call h.func h.name h.body h.nx k he hx hy hc hz
theorem step_load {x : Operand} (h : AtOp P g i f #[x] ats fn) (k : IntKind) (he : Extern.find fn = some (Extern.Atomic.loadT (.int k))) {ad : Addr} {v : Int} (hx : (aG g).eval x = .pointer (some ad)) (hc : w.cell? ad = some (.int k v)) :
    stepG P main g w = .go (putG g (.int k v)) w #[⟨.cell ad, false, true⟩] := by
  rw [show stepG P main g w = stepG P main (atG g i) w by rw [← h.eq]]
  exact stepG_load_atomic h.op h.wanted h.ne h.call h.func h.name h.body h.nx k he hx hc
theorem step_hit {x y z : Operand} (h : AtOp P g i f #[x, y, z] ats fn) (k : IntKind) (he : Extern.find fn = some (Extern.Atomic.casT (.int k))) {ad : Addr} {v n : Int} (hx : (aG g).eval x = .pointer (some ad)) (hy : (aG g).eval y = .int k v) (hzz : (aG g).eval z = .int k n) (hc : w.cell? ad = some (.int k v)) (hz : w.frozen? ad = false) :
    stepG P main g w = .go (putG g (.bool true)) (w.setCell ad (.int k n)) #[⟨.cell ad, false, true⟩, ⟨.cell ad, true, true⟩] := by
  rw [show stepG P main g w = stepG P main (atG g i) w by rw [← h.eq]]
  exact stepG_cas_hit h.op h.wanted h.ne h.call h.func h.name h.body h.nx k he hx hy hzz hc hz
theorem step_miss {x y z : Operand} (h : AtOp P g i f #[x, y, z] ats fn) (k : IntKind) (he : Extern.find fn = some (Extern.Atomic.casT (.int k))) {ad : Addr} {v old n : Int} (hx : (aG g).eval x = .pointer (some ad)) (hy : (aG g).eval y = .int k old) (hzz : (aG g).eval z = .int k n) (hc : w.cell? ad = some (.int k v)) (hz : w.frozen? ad = false) (hne : ¬ v = old) :
    stepG P main g w = .go (putG g (.bool false)) w #[⟨.cell ad, false, true⟩] := by
  rw [show stepG P main g w = stepG P main (atG g i) w by rw [← h.eq]]
  exact stepG_cas_miss h.op h.wanted h.ne h.call h.func h.name h.body h.nx k he hx hy hzz hc hz hne
end

section
variable {C : FC} {S K : Nat → Prop} {J vb d0 : Nat} {Mo : (Nat → Gh) → Int → Int → Prop} {Post : Value → World → Prop} {w0 : World} {c : Frame} {cs : List Frame}
theorem gor_put (g : Goroutine) (v : Value) : gor (putG g v).frame (putG g v).callers = putG g v := rfl
theorem OFg.put {g : Goroutine} {v : Value} (h : OFg C Post S K J Mo d0 (putG g v) w0) : OFin C Post S K J Mo d0 (putG g v).frame (putG g v).callers w0 := h
abbrev pwg (Wg : Nat) : Value := .pointer (some ⟨Wg, 0, none⟩)

noncomputable abbrev gUAdd (Wg : Nat) (c : Frame) (cs : List Frame) : Goroutine := gor (Frame.enter Try.prog 131 #[pwg Wg, .int .u64 4294967296] .normal) (c :: cs)
set_option maxRecDepth 100000 in
theorem uadd_at (Wg : Nat) : AtOp Try.prog (nxtN Try.prog true 10 (gUAdd Wg c cs)) 4 144 #[.tmp 7, .tmp 8] (match (oG (nxtN Try.prog true 10 (gUAdd Wg c cs))).op with | .call c => c.argTypes | _ => #[]) (addU64Fn link) :=
  ⟨by kernel_rfl, by kernel_rfl, by kernel_rfl, by kernel_rfl, by kernel_rfl, wgLib.f_addU64, x_addU64_n link, x_addU64_b link, by kernel_rfl⟩
set_option maxRecDepth 100000 in
/-- The add of +1, as Add calls it. -/
theorem o_uadd (hP : C.P = Try.prog) (hty : C.ty = 147) (hS : C.Stable) (hn : J + 1 - C.m < 2147483600)
    (hnx : ∀ v : Nat, v < 2147483600 → OFg C Post S K J (MoO C J 1 vb) d0 (gor (c.finish (.int .u64 (((v : Int) + 1) * KK))) cs) w0) : OFg C Post S K J (MoO C J 0 vb) d0 (gUAdd C.Wg c cs) w0 := by
  have hk0 := kp_open (C := C) (J := J) (p := 0) (vb := vb) hS hn (by omega)
  have hk1 := kp_open (C := C) (J := J) (p := 1) (vb := vb) hS hn (by omega)
  refine .kern hS hk0 (n := 10) (by rw [hP]; ((repeat (refine ⟨by kernel_rfl, fun _ => by kernel_rfl, ?_⟩)); exact True.intro)) ?_
  rw [hP]
  refine .std (by kernel_rfl) (OFin.add hS hn fun v hv => ?_)
  refine ⟨(putG (nxtN Try.prog true 10 (gUAdd C.Wg c cs)) (.int .u64 (((v : Int) + 1) * KK))).frame, (putG (nxtN Try.prog true 10 (gUAdd C.Wg c cs)) (.int .u64 (((v : Int) + 1) * KK))).callers, fun w _ hw => ?_, ?_⟩
  · have es : IntKind.u64.wrap ((v : Int) * KK + 4294967296) = ((v : Int) + 1) * KK := by rw [IntKind.wrap_u64]; simp only [KK]; omega
    have e1 : gor (nxtN Try.prog true 10 (gUAdd C.Wg c cs)).frame (nxtN Try.prog true 10 (gUAdd C.Wg c cs)).callers = nxtN Try.prog true 10 (gUAdd C.Wg c cs) := by kernel_rfl
    rw [e1, hP]
    have := step_add (main := true) (w := w) (uadd_at (c := c) (cs := cs) C.Wg) .u64 (x_addU64_f link) (ad := stA C.Wg) (v := (v : Int) * KK) (d := 4294967296) (by kernel_rfl) (by kernel_rfl) hw.cellSt (hw.thaw 0)
    rw [es] at this
    rw [gor_put, this]
    rfl
  · refine OFg.put ?_
    refine .kern hS hk1 (n := 4) (by rw [hP]; ((repeat (refine ⟨by kernel_rfl, fun _ => by kernel_rfl, ?_⟩)); exact True.intro)) ?_
    have := hnx v hv
    generalize ((v : Int) + 1) * KK = s at this ⊢
    have e2 : nxtN C.P true 4 (putG (nxtN Try.prog true 10 (gUAdd C.Wg c cs)) (.int .u64 s)) = gor (c.finish (.int .u64 s)) cs := by rw [hP]; kernel_rfl
    rw [e2]
    exact this

noncomputable abbrev gULoad (Wg : Nat) (c : Frame) (cs : List Frame) : Goroutine := gor (Frame.enter Try.prog 111 #[pwg Wg] .normal) (c :: cs)
set_option maxRecDepth 100000 in
theorem uload_at (Wg : Nat) : AtOp Try.prog (nxtN Try.prog true 9 (gULoad Wg c cs)) 3 135 #[.tmp 5] (match (oG (nxtN Try.prog true 9 (gULoad Wg c cs))).op with | .call c => c.argTypes | _ => #[]) (loadU64Fn link) :=
  ⟨by kernel_rfl, by kernel_rfl, by kernel_rfl, by kernel_rfl, by kernel_rfl, wgLib.f_loadU64, x_loadU64_n link, x_loadU64_b link, by kernel_rfl⟩
set_option maxRecDepth 100000 in
/-- The load, as Wait calls it. -/
theorem o_uload (hP : C.P = Try.prog) (hS : C.Stable) (hn : J + 1 - C.m < 2147483600)
    (hnx : ∀ v : Nat, v ≤ vb → v < 2147483600 → OFg C Post S K J (MoO C J 0 v) d0 (gor (c.finish (.int .u64 ((v : Int) * KK))) cs) w0) : OFg C Post S K J (MoO C J 0 vb) d0 (gULoad C.Wg c cs) w0 := by
  refine .kern hS (kp_open hS hn (by omega)) (n := 9) (by rw [hP]; ((repeat (refine ⟨by kernel_rfl, fun _ => by kernel_rfl, ?_⟩)); exact True.intro)) ?_
  rw [hP]
  refine .std (by kernel_rfl) (OFin.load hS hn fun v hvb hv => ?_)
  refine ⟨(putG (nxtN Try.prog true 9 (gULoad C.Wg c cs)) (.int .u64 ((v : Int) * KK))).frame, (putG (nxtN Try.prog true 9 (gULoad C.Wg c cs)) (.int .u64 ((v : Int) * KK))).callers, fun w _ hw => ?_, ?_⟩
  · have e1 : gor (nxtN Try.prog true 9 (gULoad C.Wg c cs)).frame (nxtN Try.prog true 9 (gULoad C.Wg c cs)).callers = nxtN Try.prog true 9 (gULoad C.Wg c cs) := by kernel_rfl
    rw [e1, hP, gor_put, step_load (main := true) (w := w) (uload_at (c := c) (cs := cs) C.Wg) .u64 (x_loadU64_f link) (ad := stA C.Wg) (v := (v : Int) * KK) (by kernel_rfl) hw.cellSt]
    rfl
  · refine OFg.put ?_
    refine .kern hS (kp_open hS hn (by omega)) (n := 4) (by rw [hP]; ((repeat (refine ⟨by kernel_rfl, fun _ => by kernel_rfl, ?_⟩)); exact True.intro)) ?_
    have := hnx v hvb hv
    generalize (v : Int) * KK = s at this ⊢
    have e2 : nxtN C.P true 4 (putG (nxtN Try.prog true 9 (gULoad C.Wg c cs)) (.int .u64 s)) = gor (c.finish (.int .u64 s)) cs := by rw [hP]; kernel_rfl
    rw [e2]
    exact this

noncomputable abbrev gUCas (Wg : Nat) (s s' : Int) (c : Frame) (cs : List Frame) : Goroutine := gor (Frame.enter Try.prog 115 #[pwg Wg, .int .u64 s, .int .u64 s'] .normal) (c :: cs)
set_option maxRecDepth 100000 in
theorem ucas_at (Wg : Nat) (s s' : Int) : AtOp Try.prog (nxtN Try.prog true 11 (gUCas Wg s s' c cs)) 5 136 #[.tmp 9, .tmp 10, .tmp 11] (match (oG (nxtN Try.prog true 11 (gUCas Wg s s' c cs))).op with | .call c => c.argTypes | _ => #[]) (casU64Fn link) :=
  ⟨by kernel_rfl, by kernel_rfl, by kernel_rfl, by kernel_rfl, by kernel_rfl, wgLib.f_casU64, x_casU64_n link, x_casU64_b link, by kernel_rfl⟩
set_option maxRecDepth 100000 in
/-- The compare-and-swap, as Wait calls it. -/
theorem o_ucas {vs : Nat} (hP : C.P = Try.prog) (hS : C.Stable) (hn : J + 1 - C.m < 2147483600) (hvs : 1 ≤ vs)
    (hhit : OFg C Post S K J (MoR C J) d0 (gor (c.finish (.bool true)) cs) w0) (hmiss : OFg C Post S K J (MoO C J 0 (vs - 1)) d0 (gor (c.finish (.bool false)) cs) w0) : OFg C Post S K J (MoO C J 0 vs) d0 (gUCas C.Wg ((vs : Int) * KK) ((vs : Int) * KK + 1) c cs) w0 := by
  have hk1 := kp_reg (C := C) (J := J) hS hn
  refine .kern hS (kp_open hS hn (by omega)) (n := 11) (by rw [hP]; ((repeat (refine ⟨by kernel_rfl, fun _ => by kernel_rfl, ?_⟩)); exact True.intro)) ?_
  rw [hP]
  refine .std (by kernel_rfl) (OFin.cas (fr1 := (putG (nxtN Try.prog true 11 (gUCas C.Wg ((vs : Int) * KK) ((vs : Int) * KK + 1) c cs)) (.bool true)).frame) (cs1 := (putG (nxtN Try.prog true 11 (gUCas C.Wg ((vs : Int) * KK) ((vs : Int) * KK + 1) c cs)) (.bool true)).callers) (fr2 := (putG (nxtN Try.prog true 11 (gUCas C.Wg ((vs : Int) * KK) ((vs : Int) * KK + 1) c cs)) (.bool false)).frame) (cs2 := (putG (nxtN Try.prog true 11 (gUCas C.Wg ((vs : Int) * KK) ((vs : Int) * KK + 1) c cs)) (.bool false)).callers) hS hn hvs (fun w _ hw => ?_) (OFg.put ?_) (fun w v _ hlt hw => ?_) (OFg.put ?_))
  · have e1 : gor (nxtN Try.prog true 11 (gUCas C.Wg ((vs : Int) * KK) ((vs : Int) * KK + 1) c cs)).frame (nxtN Try.prog true 11 (gUCas C.Wg ((vs : Int) * KK) ((vs : Int) * KK + 1) c cs)).callers = nxtN Try.prog true 11 (gUCas C.Wg ((vs : Int) * KK) ((vs : Int) * KK + 1) c cs) := by kernel_rfl
    rw [e1, hP, gor_put, step_hit (main := true) (w := w) (ucas_at (c := c) (cs := cs) C.Wg _ _) .u64 (x_casU64_f link) (ad := stA C.Wg) (v := (vs : Int) * KK) (n := (vs : Int) * KK + 1) (by kernel_rfl) (by kernel_rfl) (by kernel_rfl) hw.cellSt (hw.thaw 0)]
    rfl
  · refine .kern hS hk1 (n := 4) (by rw [hP]; ((repeat (refine ⟨by kernel_rfl, fun _ => by kernel_rfl, ?_⟩)); exact True.intro)) ?_
    generalize (vs : Int) * KK = s
    generalize s + 1 = s'
    have e2 : nxtN C.P true 4 (putG (nxtN Try.prog true 11 (gUCas C.Wg s s' c cs)) (.bool true)) = gor (c.finish (.bool true)) cs := by rw [hP]; kernel_rfl
    rw [e2]
    exact hhit
  · have e1 : gor (nxtN Try.prog true 11 (gUCas C.Wg ((vs : Int) * KK) ((vs : Int) * KK + 1) c cs)).frame (nxtN Try.prog true 11 (gUCas C.Wg ((vs : Int) * KK) ((vs : Int) * KK + 1) c cs)).callers = nxtN Try.prog true 11 (gUCas C.Wg ((vs : Int) * KK) ((vs : Int) * KK + 1) c cs) := by kernel_rfl
    rw [e1, hP, gor_put, step_miss (main := true) (w := w) (ucas_at (c := c) (cs := cs) C.Wg _ _) .u64 (x_casU64_f link) (ad := stA C.Wg) (v := (v : Int) * KK) (old := (vs : Int) * KK) (n := (vs : Int) * KK + 1) (by kernel_rfl) (by kernel_rfl) (by kernel_rfl) hw.cellSt (hw.thaw 0) (by simp only [KK]; omega)]
    rfl
  · refine .kern hS (kp_open hS hn (by omega)) (n := 4) (by rw [hP]; ((repeat (refine ⟨by kernel_rfl, fun _ => by kernel_rfl, ?_⟩)); exact True.intro)) ?_
    generalize (vs : Int) * KK = s
    generalize s + 1 = s'
    have e2 : nxtN C.P true 4 (putG (nxtN Try.prog true 11 (gUCas C.Wg s s' c cs)) (.bool false)) = gor (c.finish (.bool false)) cs := by rw [hP]; kernel_rfl
    rw [e2]
    exact hmiss
end

end Go.Proofs.Ytcgjppacnhmjlaa.Sim
end
