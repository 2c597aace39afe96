/- Own texts: FwT, FwU. -/
import Derived.Test.YtcgjppacnhmjlaaFmBG

section
set_option linter.unusedVariables false
set_option linter.unusedSimpArgs false
set_option linter.unusedSectionVars false
/-! treeOfParts: up to the join. -/
namespace Go.Proofs.Ytcgjppacnhmjlaa.Sim
open Go Go.Conc Go.ConcN Go.Conc.Lib Go.ConcR.Gen Go.RowKit
open Go.ConcR (KK wgBlock WgAt stA smA rd wr mk Payload DC0)
set_option linter.unusedVariables false
set_option linter.unusedSectionVars false
set_option linter.unusedSimpArgs false

theorem info93 : (Try.prog.info? 93).map (fun i => (i.zero, i.size, i.bytes)) = some (some (.pointer none), 1, 8) := by kernel_rfl
theorem info27 : (Try.prog.info? 27).map (fun i => (i.zero, i.size, i.bytes)) = some (some (.int .i64 0), 1, 8) := by kernel_rfl

section
variable (Pb po n cap : Nat) (c : Frame) (cs : List Frame) (T b4 E b5 Wg : Nat)
noncomputable def gE0 : Goroutine := gor (Frame.enter Try.prog 50 #[vps Pb po n cap] .normal) (c :: cs)
noncomputable def gE1 : Goroutine := nxtN Try.prog true 9 (gE0 Pb po n cap c cs)
noncomputable def gE2 : Goroutine := putG (gE1 Pb po n cap c cs) (slc T n)
noncomputable def gE3 : Goroutine := putG (gE2 Pb po n cap c cs T) (ptr b4)
noncomputable def gE5 : Goroutine := nxtN Try.prog true 5 (putG (gE3 Pb po n cap c cs T b4) undef)
noncomputable def gE6 : Goroutine := putG (gE5 Pb po n cap c cs T b4) (slc E n)
noncomputable def gE7 : Goroutine := putG (gE6 Pb po n cap c cs T b4 E) (ptr b5)
noncomputable def gE9 : Goroutine := nxtN Try.prog true 3 (putG (gE7 Pb po n cap c cs T b4 E b5) undef)
noncomputable def gEA : Goroutine := putG (gE9 Pb po n cap c cs T b4 E b5) (ptr Wg)
set_option maxRecDepth 100000 in
theorem e1_at : AtR (gE1 Pb po n cap c cs) 2 := ⟨by kernel_rfl, by kernel_rfl, by kernel_rfl, by kernel_rfl⟩
set_option maxRecDepth 100000 in
theorem e3_at : AtR (gE3 Pb po n cap c cs T b4) 4 := ⟨by kernel_rfl, by kernel_rfl, by kernel_rfl, by kernel_rfl⟩
set_option maxRecDepth 100000 in
theorem e5_at : AtR (gE5 Pb po n cap c cs T b4) 2 := ⟨by kernel_rfl, by kernel_rfl, by kernel_rfl, by kernel_rfl⟩
set_option maxRecDepth 100000 in
theorem e7_at : AtR (gE7 Pb po n cap c cs T b4 E b5) 4 := ⟨by kernel_rfl, by kernel_rfl, by kernel_rfl, by kernel_rfl⟩
set_option maxRecDepth 100000 in
theorem eA_head : nxtN Try.prog true 12 (gEA Pb po n cap c cs T b4 E b5 Wg) = gH50 Pb po n cap b4 b5 Wg c cs (xF (nxtN Try.prog true 12 (gEA Pb po n cap c cs T b4 E b5 Wg)).frame) 0 := by kernel_rfl
set_option maxRecDepth 100000 in
theorem eA_idle : Idle Try.prog true 12 (gEA Pb po n cap c cs T b4 E b5 Wg) := by ((repeat (refine ⟨by kernel_rfl, fun _ => by kernel_rfl, ?_⟩)); exact True.intro)
end

theorem size_made (z : Array Value) (n : Nat) : (madeCells z n).size = n := by simp [madeCells]

section
variable {Pb po n cap : Nat} {vs : List Value} {pss : List (List PP)} {Post : Value → World → Prop} {O K0 : Nat → Prop} {c : Frame} {cs : List Frame} {w : World}
/-- The fork of one call. -/
abbrev fk (w : World) (Pb po n cap : Nat) (vs : List Value) (pss : List (List PP)) : Fk :=
  { Pb := Pb, po := po, n := n, cap := cap, b4 := w.heap.size + 1, b5 := w.heap.size + 3, T := w.heap.size, E := w.heap.size + 2, vs := vs, pss := pss }

set_option maxRecDepth 100000 in
/-- ████ treeOfParts, up to the join. ████ -/
theorem m_fork (hlen : vs.length = n ∧ pss.length = n ∧ n ≤ 16) (hkeys : ∀ ps ∈ pss, ps.length ≤ 3000 ∧ ∀ q ∈ ps, q.1.size ≤ 64) (hK : ∀ b, K0 b → b < w.heap.size ∧ ¬ O b) (hO : ∀ b, O b → b < w.heap.size)
    (hPb : K0 Pb) (hcell : ∀ (i : Nat) v, vs[i]? = some v → w.cell? ⟨Pb, po + i, none⟩ = some v) (hparts : ∀ (i : Nat) v ps, vs[i]? = some v → pss[i]? = some ps → PartAt K0 w v ps) (hglob : Try.prog.globals.size ≤ w.heap.size)
    (hnx : ∀ (m : Nat) (L : Nat → Prop) (x : Nat → Value) (w' : World), 1 ≤ m → (∀ b, K0 b → L b) → (∀ b, K0 b → SameC w w' b) → (∀ b, K0 b → (∀ v ∈ vs, ¬ InS v b) → w'.heap[b]? = w.heap[b]?) → (∃ f, w'.heap[w.heap.size + 1]? = some (.cells #[slc w.heap.size n] 101 f)) → (∃ f, w'.heap[w.heap.size + 3]? = some (.cells #[slc (w.heap.size + 2) n] 140 f)) → w.heap.size + 4 < w'.heap.size → w'.os = w.os → w'.output = w.output →
      (fk w Pb po n cap vs pss).F L w' → Joined ((fk w Pb po n cap vs pss).C (w.heap.size + 4) m (fun b => O b ∨ b = w.heap.size + 4)) L (m - 1 + n) w' →
      MFg Try.prog Post (fun b => O b ∨ b = w.heap.size + 4) (gor (((fk w Pb po n cap vs pss).fWt (w.heap.size + 4) c cs x).finish (.tuple #[])) (c :: cs)) w') :
    MFg Try.prog Post O (gE0 Pb po n cap c cs) w := by
  obtain ⟨t93, i93, z93, s93, y93⟩ := info_parts info93
  obtain ⟨t27, i27, z27, s27, y27⟩ := info_parts info27
  have hn16 := hlen.2.2
  refine .kern (n := 9) (by ((repeat (refine ⟨by kernel_rfl, fun _ => by kernel_rfl, ?_⟩)); exact True.intro)) ?_
  refine .new (by kernel_rfl) (.cells (madeCells (Value.pointer none).cells n) 93) (fun T => gE2 Pb po n cap c cs T) (fun w => step_make (e1_at Pb po n cap c cs) (t := 101) (x := .tmp 12) (e := 93) (by kernel_rfl) (by kernel_rfl) Try.underlying101 i93 z93 (by omega) s93 hn16) ?_
  generalize hT : newB w (.cells (madeCells (Value.pointer none).cells n) 93) = w1
  have s1 : w1.heap.size = w.heap.size + 1 := by rw [← hT]; simp [newB]
  have o1 : ∀ b, b < w.heap.size → w1.heap[b]? = w.heap[b]? := fun b hb => by rw [← hT]; exact newB_old w _ hb
  have t1 : w1.heap[w.heap.size]? = some (.cells (madeCells (Value.pointer none).cells n) 93) := by rw [← hT]; exact newB_new w _
  have u1 : w1.os = w.os ∧ w1.output = w.output := by rw [← hT]; exact ⟨rfl, rfl⟩
  clear hT
  refine .new (by kernel_rfl) (.cells #[.slice none 0 0] 101) (fun b4 => gE3 Pb po n cap c cs w.heap.size b4) (fun w => by kernel_rfl) ?_
  generalize hB : newB w1 (.cells #[.slice none 0 0] 101) = w2
  have s2 : w2.heap.size = w.heap.size + 2 := by rw [← hB]; simp [newB, s1]
  have o2 : ∀ b, b < w1.heap.size → w2.heap[b]? = w1.heap[b]? := fun b hb => by rw [← hB]; exact newB_old w1 _ hb
  have p2 : w2.heap[w.heap.size + 1]? = some (.cells #[.slice none 0 0] 101) := by rw [← hB, ← s1]; exact newB_new w1 _
  have u2 : w2.os = w1.os ∧ w2.output = w1.output := by rw [← hB]; exact ⟨rfl, rfl⟩
  clear hB
  rw [s1]
  refine .st (by kernel_rfl) (e3_at Pb po n cap c cs w.heap.size (w.heap.size + 1)) (t := 101) (x := .tmp 4) (y := .tmp 13) (a := ⟨w.heap.size + 1, 0, none⟩) (v := slc w.heap.size n) (u := .slice none 0 0) (by kernel_rfl) (by kernel_rfl) (by kernel_rfl) rfl Try.sizeOf101 (fun h => by have := hO _ h; simp at this; omega) (by simp [World.cell?, p2]) (frozen_of p2) ?_
  have a3 := aside_setCell w2 ⟨w.heap.size + 1, 0, none⟩ (slc w.heap.size n)
  have c3 : (w2.setCell ⟨w.heap.size + 1, 0, none⟩ (slc w.heap.size n)).cell? ⟨w.heap.size + 1, 0, none⟩ = some (slc w.heap.size n) := cell_set (u := .slice none 0 0) (by simp [World.cell?, p2])
  have e3 : (w2.setCell ⟨w.heap.size + 1, 0, none⟩ (slc w.heap.size n)).heap[w.heap.size + 1]? = some (.cells #[slc w.heap.size n] 101) := by simp [World.setCell, Array.getElem?_modify, p2]
  generalize w2.setCell ⟨w.heap.size + 1, 0, none⟩ (slc w.heap.size n) = w3 at a3 c3 e3
  have s3 : w3.heap.size = w.heap.size + 2 := by rw [a3.size, s2]
  refine .kern (n := 5) (by ((repeat (refine ⟨by kernel_rfl, fun _ => by kernel_rfl, ?_⟩)); exact True.intro)) ?_
  refine .new (by kernel_rfl) (.cells (madeCells (Value.int .i64 0).cells n) 27) (fun E => gE6 Pb po n cap c cs w.heap.size (w.heap.size + 1) E) (fun w' => step_make (e5_at Pb po n cap c cs w.heap.size (w.heap.size + 1)) (t := 140) (x := .tmp 15) (e := 27) (by kernel_rfl) (by kernel_rfl) Try.underlying140 i27 z27 (by omega) s27 hn16) ?_
  generalize hE : newB w3 (.cells (madeCells (Value.int .i64 0).cells n) 27) = w4
  have s4 : w4.heap.size = w.heap.size + 3 := by rw [← hE]; simp [newB, s3]
  have o4 : ∀ b, b < w3.heap.size → w4.heap[b]? = w3.heap[b]? := fun b hb => by rw [← hE]; exact newB_old w3 _ hb
  have p4 : w4.heap[w.heap.size + 2]? = some (.cells (madeCells (Value.int .i64 0).cells n) 27) := by rw [← hE, ← s3]; exact newB_new w3 _
  have u4 : w4.os = w3.os ∧ w4.output = w3.output := by rw [← hE]; exact ⟨rfl, rfl⟩
  clear hE
  rw [s3]
  refine .new (by kernel_rfl) (.cells #[.slice none 0 0] 140) (fun b5 => gE7 Pb po n cap c cs w.heap.size (w.heap.size + 1) (w.heap.size + 2) b5) (fun w => by kernel_rfl) ?_
  generalize hB : newB w4 (.cells #[.slice none 0 0] 140) = w5
  have s5 : w5.heap.size = w.heap.size + 4 := by rw [← hB]; simp [newB, s4]
  have o5 : ∀ b, b < w4.heap.size → w5.heap[b]? = w4.heap[b]? := fun b hb => by rw [← hB]; exact newB_old w4 _ hb
  have p5 : w5.heap[w.heap.size + 3]? = some (.cells #[.slice none 0 0] 140) := by rw [← hB, ← s4]; exact newB_new w4 _
  have u5 : w5.os = w4.os ∧ w5.output = w4.output := by rw [← hB]; exact ⟨rfl, rfl⟩
  clear hB
  rw [s4]
  refine .st (by kernel_rfl) (e7_at Pb po n cap c cs w.heap.size (w.heap.size + 1) (w.heap.size + 2) (w.heap.size + 3)) (t := 140) (x := .tmp 5) (y := .tmp 16) (a := ⟨w.heap.size + 3, 0, none⟩) (v := slc (w.heap.size + 2) n) (u := .slice none 0 0) (by kernel_rfl) (by kernel_rfl) (by kernel_rfl) rfl Try.sizeOf140 (fun h => by have := hO _ h; simp at this; omega) (by simp [World.cell?, p5]) (frozen_of p5) ?_
  have a6 := aside_setCell w5 ⟨w.heap.size + 3, 0, none⟩ (slc (w.heap.size + 2) n)
  have c6 : (w5.setCell ⟨w.heap.size + 3, 0, none⟩ (slc (w.heap.size + 2) n)).cell? ⟨w.heap.size + 3, 0, none⟩ = some (slc (w.heap.size + 2) n) := cell_set (u := .slice none 0 0) (by simp [World.cell?, p5])
  have e6 : (w5.setCell ⟨w.heap.size + 3, 0, none⟩ (slc (w.heap.size + 2) n)).heap[w.heap.size + 3]? = some (.cells #[slc (w.heap.size + 2) n] 140) := by simp [World.setCell, Array.getElem?_modify, p5]
  generalize w5.setCell ⟨w.heap.size + 3, 0, none⟩ (slc (w.heap.size + 2) n) = w6 at a6 c6 e6
  have s6 : w6.heap.size = w.heap.size + 4 := by rw [a6.size, s5]
  -- what is where
  have old : ∀ b, b < w.heap.size → w6.heap[b]? = w.heap[b]? := fun b hb => (a6.block b (by show b ≠ w.heap.size + 3; omega)).trans ((o5 b (by omega)).trans ((o4 b (by omega)).trans ((a3.block b (by show b ≠ w.heap.size + 1; omega)).trans ((o2 b (by omega)).trans (o1 b hb)))))
  have hTb : w6.heap[w.heap.size]? = some (.cells (madeCells (Value.pointer none).cells n) 93) := (a6.block _ (by show w.heap.size ≠ w.heap.size + 3; omega)).trans ((o5 _ (by omega)).trans ((o4 _ (by omega)).trans ((a3.block _ (by show w.heap.size ≠ w.heap.size + 1; omega)).trans ((o2 _ (by omega)).trans t1))))
  have hEb : w6.heap[w.heap.size + 2]? = some (.cells (madeCells (Value.int .i64 0).cells n) 27) := (a6.block _ (by show w.heap.size + 2 ≠ w.heap.size + 3; omega)).trans ((o5 _ (by omega)).trans p4)
  have h4b : w6.cell? ⟨w.heap.size + 1, 0, none⟩ = some (slc w.heap.size n) := by
    have hb : w6.heap[w.heap.size + 1]? = w3.heap[w.heap.size + 1]? := (a6.block _ (by show w.heap.size + 1 ≠ w.heap.size + 3; omega)).trans ((o5 _ (by omega)).trans (o4 _ (by omega)))
    exact (World.cell?_of_block (a := ⟨w.heap.size + 1, 0, none⟩) hb).trans c3
  have e4 : w6.heap[w.heap.size + 1]? = some (.cells #[slc w.heap.size n] 101) := ((a6.block _ (by show w.heap.size + 1 ≠ w.heap.size + 3; omega)).trans ((o5 _ (by omega)).trans (o4 _ (by omega)))).trans e3
  have hos : w6.os = w.os ∧ w6.output = w.output := ⟨a6.os.trans (u5.1.trans (u4.1.trans (a3.os.trans (u2.1.trans u1.1)))), a6.output.trans (u5.2.trans (u4.2.trans (a3.output.trans (u2.2.trans u1.2))))⟩
  clear o1 o2 o4 o5 t1 p2 p4 p5 a3 a6 c3 u1 u2 u4 u5 e3
  refine .kern (n := 3) (by ((repeat (refine ⟨by kernel_rfl, fun _ => by kernel_rfl, ?_⟩)); exact True.intro)) ?_
  refine .eqv (g' := gor (gE9 Pb po n cap c cs w.heap.size (w.heap.size + 1) (w.heap.size + 2) (w.heap.size + 3)).frame (gE9 Pb po n cap c cs w.heap.size (w.heap.size + 1) (w.heap.size + 2) (w.heap.size + 3)).callers) (by kernel_rfl) (MFin.toG ?_)
  refine MFin.begin (ty := 147) (T := w.heap.size) (E := w.heap.size + 2) (n := n) (Res := (fk w Pb po n cap vs pss).Res) (L := fun b => K0 b ∨ b = w.heap.size + 1 ∨ b = w.heap.size + 3) ⟨_, hTb, size_made _ _⟩ ⟨_, _, _, hEb, size_made _ _, rfl⟩ (by omega) ⟨fun h => by have := hO _ h; omega, fun h => by have := hO _ h; omega⟩ (fun b hb => by have := hO b hb; omega) ?_ fun tp d => ?_
  · rintro b (hb | rfl | rfl)
    · obtain ⟨h1, h2⟩ := hK b hb
      exact ⟨by omega, by omega, by omega, h2⟩
    · exact ⟨by omega, by omega, by omega, fun h => by have := hO _ h; omega⟩
    · exact ⟨by omega, by omega, by omega, fun h => by have := hO _ h; omega⟩
  · refine ⟨(gEA Pb po n cap c cs w.heap.size (w.heap.size + 1) (w.heap.size + 2) (w.heap.size + 3) w6.heap.size).frame, (gEA Pb po n cap c cs w.heap.size (w.heap.size + 1) (w.heap.size + 2) (w.heap.size + 3) w6.heap.size).callers, newB (re w6 tp d) (.cells #[.int .u64 0, .int .u32 0] 147), ?_, by simp [newB, Sim.re], newB_new (re w6 tp d) _, fun b hb => newB_old (re w6 tp d) _ hb, fun m hm => OFg.toF ?_⟩
    · kernel_rfl
    · have oldN : ∀ b, b < w.heap.size → (newB (re w6 tp d) (.cells #[.int .u64 0, .int .u32 0] 147)).heap[b]? = w.heap[b]? := fun b hb => (newB_old (re w6 tp d) _ (by show b < w6.heap.size; omega)).trans (old b hb)
      have sN : (newB (re w6 tp d) (.cells #[.int .u64 0, .int .u32 0] 147)).heap.size = w.heap.size + 5 := by simp [newB, Sim.re, s6]
      have cN : ∀ {b o : Nat} {v : Value}, w6.cell? ⟨b, o, none⟩ = some v → (newB (re w6 tp d) (.cells #[.int .u64 0, .int .u32 0] 147)).cell? ⟨b, o, none⟩ = some v := fun {b o v} h => cell_newB (w := re w6 tp d) h
      have uN : (newB (re w6 tp d) (.cells #[.int .u64 0, .int .u32 0] 147)).os = w.os ∧ (newB (re w6 tp d) (.cells #[.int .u64 0, .int .u32 0] 147)).output = w.output := hos
      have e4N : (newB (re w6 tp d) (.cells #[.int .u64 0, .int .u32 0] 147)).heap[w.heap.size + 1]? = some (.cells #[slc w.heap.size n] 101) := (newB_old (re w6 tp d) _ (by show _ < w6.heap.size; omega)).trans e4
      have e5N : (newB (re w6 tp d) (.cells #[.int .u64 0, .int .u32 0] 147)).heap[w.heap.size + 3]? = some (.cells #[slc (w.heap.size + 2) n] 140) := (newB_old (re w6 tp d) _ (by show _ < w6.heap.size; omega)).trans e6
      generalize newB (re w6 tp d) (.cells #[.int .u64 0, .int .u32 0] 147) = wN at oldN sN cN uN e4N e5N
      rw [s6]
      have ok : (fk w Pb po n cap vs pss).Ok := ⟨hlen, hkeys, by show w.heap.size ≠ w.heap.size + 2; omega⟩
      have hS := (fk w Pb po n cap vs pss).stable (w.heap.size + 4) m (fun b => O b ∨ b = w.heap.size + 4)
      have hL0 : ∀ b, (K0 b ∨ b = w.heap.size + 1 ∨ b = w.heap.size + 3) → b ≠ w.heap.size ∧ b ≠ w.heap.size + 2 := by
        rintro b (hb | rfl | rfl)
        · have := (hK b hb).1; omega
        · omega
        · omega
      have oldC : ∀ {b o : Nat} {v : Value}, b < w.heap.size → w.cell? ⟨b, o, none⟩ = some v → wN.cell? ⟨b, o, none⟩ = some v := fun {b o v} hb h => (World.cell?_of_block (a := ⟨b, o, none⟩) (oldN b hb)).trans h
      have hF : (fk w Pb po n cap vs pss).F (fun b => K0 b ∨ b = w.heap.size + 1 ∨ b = w.heap.size + 3) wN := by
        refine ⟨.inl hPb, fun i v hi => oldC (hK _ hPb).1 (hcell i v hi), .inr (.inl rfl), cN h4b, .inr (.inr rfl), cN c6, fun i v ps h1 h2 => ?_, by omega⟩
        exact ((hparts i v ps h1 h2).keep fun b hb => .of_eq (oldN b (hK b hb).1)).mono fun b => .inl
      have hk := kp_open (C := (fk w Pb po n cap vs pss).C (w.heap.size + 4) m (fun b => O b ∨ b = w.heap.size + 4)) (J := m - 1) (p := 0) (vb := 0) hS (by show m - 1 + 1 - m < 2147483600; omega) (by omega)
      change OFg ((fk w Pb po n cap vs pss).C (w.heap.size + 4) m (fun b => O b ∨ b = w.heap.size + 4)) Post (fun _ => False) (fun b => K0 b ∨ b = w.heap.size + 1 ∨ b = w.heap.size + 3) (m - 1) (MoO ((fk w Pb po n cap vs pss).C (w.heap.size + 4) m (fun b => O b ∨ b = w.heap.size + 4)) (m - 1) 0 0) 0 _ wN
      refine .eqv (g' := gEA Pb po n cap c cs w.heap.size (w.heap.size + 1) (w.heap.size + 2) (w.heap.size + 3) (w.heap.size + 4)) (by kernel_rfl) (.kern hS hk (n := 12) (eA_idle _ _ _ _ _ _ _ _ _ _ _) ?_)
      change OFg _ _ _ _ _ _ _ (nxtN Try.prog true 12 _) _
      rw [eA_head]
      have := o_loop50 (k := fk w Pb po n cap vs pss) (Wg := w.heap.size + 4) (m := m) (O := fun b => O b ∨ b = w.heap.size + 4) (Post := Post) (c := c) (cs := cs) (L0 := fun b => K0 b ∨ b = w.heap.size + 1 ∨ b = w.heap.size + 3) (w00 := wN) ok hm hL0 (fun L S x w' hLL hSR hRl hF' hJ => ?_) n 0 (by show n + 0 = n; omega) (fun b => K0 b ∨ b = w.heap.size + 1 ∨ b = w.heap.size + 3) (fun _ => False) (xF (nxtN Try.prog true 12 (gEA Pb po n cap c cs w.heap.size (w.heap.size + 1) (w.heap.size + 2) (w.heap.size + 3) (w.heap.size + 4))).frame) wN 0 (fun b => id) (fun b h => h.elim) (fun b h => h.elim) hL0 hF (.refl _ _ _)
      · rw [Nat.add_zero] at this
        exact this
      · have nIn : ∀ b, K0 b → (∀ v ∈ vs, ¬ InS v b) → ¬ S b := by
          intro b hb hno hS'
          have hlt := (hK b hb).1
          rcases hSR b hS' with ⟨v, h1, h2⟩ | h | h | h
          · exact hno v h1 h2
          · have : b = w.heap.size + 1 := h; omega
          · have : b = w.heap.size + 3 := h; omega
          · exact h (.inl hb)
        refine hnx m L x w' hm (fun b hb => hLL b (.inl hb)) (fun b hb => (SameC.of_eq (oldN b (hK b hb).1)).trans (hRl.same b (.inl hb))) (fun b hb hno => (hRl.exact b (.inl hb) (nIn b hb hno)).trans (oldN b (hK b hb).1)) (hRl.same _ (.inr (.inl rfl)) _ _ _ e4N) (hRl.same _ (.inr (.inr rfl)) _ _ _ e5N) (by have := hRl.size; omega) (hRl.os.trans uN.1) (hRl.output.trans uN.2) hF' hJ
end

end Go.Proofs.Ytcgjppacnhmjlaa.Sim
end

section
set_option linter.unusedVariables false
set_option linter.unusedSimpArgs false
set_option linter.unusedSectionVars false
/-! Behind the join: what goroutine 0 knows. -/
namespace Go.Proofs.Ytcgjppacnhmjlaa.Sim
open Go Go.Conc Go.ConcN Go.Conc.Lib Go.ConcR.Gen Go.RowKit
open Go.ConcR (KK wgBlock WgAt stA smA rd wr mk Payload DC0)
set_option linter.unusedVariables false
set_option linter.unusedSectionVars false
set_option linter.unusedSimpArgs false

theorem fine_diag {N : Nat} {D : Nat → Prop} : BR.Fine N (fun a b => a = b ∧ D a) := ⟨fun a b c x y => x.1.symm.trans y.1, fun a b c x y => x.1.trans y.1.symm, fun a b x => by rw [x.1]⟩
theorem avp_self {G : FuncId → Prop} {R R2 : BR} {c : Array Value} (h : AVP G R c c) (hs : BR.Sub R R2) : AVP G R2 c c := h.mono hs
theorem avp_one {G : FuncId → Prop} {R : BR} {v : Value} (h : VR G R v v) : AVP G R #[v] #[v] := ⟨Nat.le_refl _, fun i u u' a b => by
  rw [a] at b; cases b
  match i with
  | 0 => simp at a; subst a; exact h
  | i + 1 => simp at a⟩
theorem blk_self {V : TypeId → Prop} {G : FuncId → Prop} {R : BR} {a : Nat} {c : Array Value} {e : TypeId} {f : Nat × Nat} (h : AVP G R c c) : BlkR V G R (fun _ _ => False) a (.cells c e f) (.cells c e f) := .cells h (fun _ => .inl rfl) (fun _ => ⟨rfl, rfl⟩) (fun i x => x.elim)

section
variable {Pb po n cap : Nat} {vs : List Value} {pss : List (List PP)} {O : Nat → Prop} {w w' : World} {R : BR} {m : Nat} {L : Nat → Prop}
/-- What there is behind the join. -/
structure After (w : World) (Pb po n cap : Nat) (vs : List Value) (pss : List (List PP)) (O : Nat → Prop) (R : BR) (w' : World) (R' : BR) : Prop where
  known : Known Xm (fun b => O b ∨ b = w.heap.size + 4) R' w'
  sub : BR.Sub R R'
  r4 : R' (w.heap.size + 1) (w.heap.size + 1)
  r5 : R' (w.heap.size + 3) (w.heap.size + 3)
  rT : R' w.heap.size w.heap.size
  rE : R' (w.heap.size + 2) (w.heap.size + 2)
  c4 : w'.cell? ⟨w.heap.size + 1, 0, none⟩ = some (slc w.heap.size n)
  c5 : w'.cell? ⟨w.heap.size + 3, 0, none⟩ = some (slc (w.heap.size + 2) n)
  tree : ∀ (i : Nat) ps, pss[i]? = some ps → ∃ n' tp, w'.cell? ⟨w.heap.size, i, none⟩ = some (.pointer tp) ∧ TreeN (fun b => ¬ R b b) n' w' tp (puts ps []) ∧ VR Xm.G R' (.pointer tp) (.pointer tp)
  errs : ∀ i, i < n → w'.cell? ⟨w.heap.size + 2, i, none⟩ = some (.int .i64 0)
  size : w.heap.size + 4 < w'.heap.size

theorem join_known (hlen : vs.length = n ∧ pss.length = n ∧ n ≤ 16) (hK : Known Xm O R w) (hparts : ∀ (i : Nat) v ps, vs[i]? = some v → pss[i]? = some ps → PartAt (fun b => R b b) w v ps) (hm : 1 ≤ m)
    (hL : ∀ b, R b b → L b) (hsame : ∀ b, R b b → SameC w w' b) (hex : ∀ b, R b b → (∀ v ∈ vs, ¬ InS v b) → w'.heap[b]? = w.heap[b]?) (h4 : ∃ f, w'.heap[w.heap.size + 1]? = some (.cells #[slc w.heap.size n] 101 f)) (h5 : ∃ f, w'.heap[w.heap.size + 3]? = some (.cells #[slc (w.heap.size + 2) n] 140 f)) (hsz : w.heap.size + 4 < w'.heap.size)
    (hJ : Joined ((fk w Pb po n cap vs pss).C (w.heap.size + 4) m (fun b => O b ∨ b = w.heap.size + 4)) L (m - 1 + n) w') : ∃ R', After w Pb po n cap vs pss O R w' R' := by
  obtain ⟨hwf, val, M, hres, hMx, hMM⟩ := hJ
  have hx : ∀ i, i < n → ∃ vP ps, vs[i]? = some vP ∧ pss[i]? = some ps ∧ RsP (InS vP) ps (val (m + i)) (.int .i64 0) (M (m + i)) w' ∧ w'.cell? ⟨w.heap.size + 2, i, none⟩ = some (.int .i64 0) ∧ w'.cell? ⟨w.heap.size, i, none⟩ = some (val (m + i)) := by
    intro i hi
    obtain ⟨⟨vP, ps, a1, a2, a3, a4⟩, a5⟩ := hres (m + i) (by show m ≤ m + i; omega) (by omega)
    have e : m + i - m = i := by omega
    have e2 : m + i - ((fk w Pb po n cap vs pss).C (w.heap.size + 4) m (fun b => O b ∨ b = w.heap.size + 4)).m = i := e
    rw [e] at a1 a2 a4
    unfold Has at a5
    rw [e2] at a5
    exact ⟨vP, ps, a1, a2, a3, a4, a5⟩
  -- the blocks of the trees
  let Dd : Nat → Prop := fun b => ∃ i, i < n ∧ ∃ (vP : Value) (D : Nat → Prop), vs[i]? = some vP ∧ (∀ b, D b → M (m + i) b) ∧ (∀ tp, val (m + i) = .pointer tp → ∀ t, tp = some t → D t.block) ∧ (∀ b, D b → ∃ o, w'.heap[b]? = some o ∧ BlkR Xm.vw Xm.G (fun a b => a = b ∧ (D a ∨ InS vP a)) (fun _ _ => False) b o o) ∧ D b
  let R' : BR := fun a b => a = b ∧ (R a a ∨ a = w.heap.size ∨ a = w.heap.size + 2 ∨ a = w.heap.size + 1 ∨ a = w.heap.size + 3 ∨ Dd a)
  have hsub : BR.Sub R R' := fun a b h => by
    have e := hK.diag a b h
    subst e
    exact ⟨rfl, .inl h⟩
  have htree : ∀ i, i < n → ∃ vP ps n' tp, vs[i]? = some vP ∧ pss[i]? = some ps ∧ val (m + i) = .pointer tp ∧ TreeN (M (m + i)) n' w' tp (puts ps []) ∧ VR Xm.G R' (.pointer tp) (.pointer tp) := by
    intro i hi
    obtain ⟨vP, ps, a1, a2, ⟨_, n', tp, b1, b2, D, d1, d2, d3⟩, a4, a5⟩ := hx i hi
    refine ⟨vP, ps, n', tp, a1, a2, b1, b2, ?_⟩
    cases tp with
    | none => exact .pnil
    | some t =>
      refine .ptr ⟨⟨rfl, .inr (.inr (.inr (.inr (.inr ⟨i, hi, vP, D, a1, d1, fun tp h t' ht => ?_, d3, d2 t rfl⟩))))⟩, rfl, rfl⟩
      rw [b1] at h; cases h
      exact d2 t' ht
  have hinS : ∀ {vP : Value} {a i : Nat}, i < n → vs[i]? = some vP → InS vP a → R a a := by
    intro vP a i hi hv ha
    obtain ⟨_, ps, b1, b2, _⟩ := hx i hi
    exact (hparts i vP ps hv b2).of_inS ha
  have rl4 : R' (w.heap.size + 1) (w.heap.size + 1) := ⟨rfl, .inr (.inr (.inr (.inl rfl)))⟩
  have rl5 : R' (w.heap.size + 3) (w.heap.size + 3) := ⟨rfl, .inr (.inr (.inr (.inr (.inl rfl))))⟩
  have rlT : R' w.heap.size w.heap.size := ⟨rfl, .inr (.inl rfl)⟩
  have rlE : R' (w.heap.size + 2) (w.heap.size + 2) := ⟨rfl, .inr (.inr (.inl rfl))⟩
  have hlow := hK.wr.low.1
  have hRlt : ∀ a, R a a → a < w.heap.size := fun a h => (hK.wr.lt h).1
  have hKn : Known Xm (fun b => O b ∨ b = w.heap.size + 4) R' w' := by
    refine ⟨fun a b h => h.1, ⟨fine_diag, ⟨by omega, by omega⟩, fun a i h => h.elim, fun a b h => ?_⟩, fun a h => ?_, fun a h => ?_⟩
    · obtain ⟨rfl, h⟩ := h
      rcases h with h | rfl | rfl | rfl | rfl | ⟨i, hi, vP, D, hv, d1, d2, d3, hD⟩
      · obtain ⟨o, o', q1, q2, q3⟩ := hK.wr.blk a a h
        rw [q1] at q2; cases q2
        cases q3 with
        | @cells c c' e f f' r1 r2 r3 r4 =>
          obtain ⟨f1, q4⟩ := hsame a h c e f q1
          exact ⟨_, _, q4, q4, blk_self (r1.mono hsub)⟩
        | @number x x' l r1 r2 =>
          have : w'.heap[a]? = w.heap[a]? := hex a h fun v hv hin => by
            obtain ⟨i, hi⟩ := List.getElem?_of_mem hv
            have hlt : i < n := by have := (List.getElem?_eq_some_iff.1 hi).1; omega
            obtain ⟨_, ps, _, b2, _⟩ := hx i hlt
            rcases hparts i v ps hi b2 with ⟨_, e⟩ | ⟨k, o, cp, cc, e, f, p1, p2, p3, p4, _⟩
            · obtain ⟨o, l, c, e'⟩ := hin; rw [e] at e'; cases e'
            · obtain ⟨o, l, c, e'⟩ := hin; rw [p2] at e'; cases e'; rw [q1] at p4; cases p4
          exact ⟨_, _, this.trans q1, this.trans q1, .number (r1.mono hsub) r2⟩
        | @view x x' u r0 r1 r2 =>
          have : w'.heap[a]? = w.heap[a]? := hex a h fun v hv hin => by
            obtain ⟨i, hi⟩ := List.getElem?_of_mem hv
            have hlt : i < n := by have := (List.getElem?_eq_some_iff.1 hi).1; omega
            obtain ⟨_, ps, _, b2, _⟩ := hx i hlt
            rcases hparts i v ps hi b2 with ⟨_, e⟩ | ⟨k, o, cp, cc, e, f, p1, p2, p3, p4, _⟩
            · obtain ⟨o, l, c, e'⟩ := hin; rw [e] at e'; cases e'
            · obtain ⟨o, l, c, e'⟩ := hin; rw [p2] at e'; cases e'; rw [q1] at p4; cases p4
          exact ⟨_, _, this.trans q1, this.trans q1, .view r0 (r1.mono hsub) r2⟩
      · obtain ⟨c, q1, q2⟩ := hwf.T
        refine ⟨_, _, q1, q1, blk_self ⟨Nat.le_refl _, fun i v v' x y => ?_⟩⟩
        rw [x] at y; cases y
        have hi : i < n := by have := (Array.getElem?_eq_some_iff.1 x).1; rw [q2] at this; exact this
        obtain ⟨vP, ps, n', tp, _, _, b1, _, b3⟩ := htree i hi
        obtain ⟨_, _, _, _, _, _, a5⟩ := hx i hi
        have q1' : w'.heap[w.heap.size]? = some (.cells c 93 (0, 0)) := q1
        have : c[i]? = some (val (m + i)) := by simpa [World.cell?, q1'] using a5
        rw [x] at this; cases this
        rw [b1]; exact b3
      · obtain ⟨c, e, f, q1, q2, q3⟩ := hwf.E
        refine ⟨_, _, q1, q1, blk_self ⟨Nat.le_refl _, fun i v v' x y => ?_⟩⟩
        rw [x] at y; cases y
        have hi : i < n := by have := (Array.getElem?_eq_some_iff.1 x).1; rw [q2] at this; exact this
        obtain ⟨_, _, _, _, _, a4, _⟩ := hx i hi
        have q1' : w'.heap[w.heap.size + 2]? = some (.cells c e f) := q1
        have : c[i]? = some (.int .i64 0) := by simpa [World.cell?, q1'] using a4
        rw [x] at this; cases this
        exact .int _ _
      · obtain ⟨f, q1⟩ := h4
        exact ⟨_, _, q1, q1, blk_self (avp_one (.slice _ _ ⟨rlT, rfl, rfl⟩))⟩
      · obtain ⟨f, q1⟩ := h5
        exact ⟨_, _, q1, q1, blk_self (avp_one (.slice _ _ ⟨rlE, rfl, rfl⟩))⟩
      · obtain ⟨o, q1, q2⟩ := d3 a hD
        refine ⟨o, o, q1, q1, q2.mono fun x y hxy => ⟨hxy.1, ?_⟩⟩
        rcases hxy.2 with h | h
        · exact .inr (.inr (.inr (.inr (.inr ⟨i, hi, vP, D, hv, d1, d2, d3, h⟩))))
        · exact .inl (hinS hi hv h)
    · rcases h.2 with h | rfl | rfl | rfl | rfl | ⟨i, hi, vP, D, hv, d1, d2, d3, hD⟩
      · rintro (h1 | h1)
        · exact hK.apart a h h1
        · have := hRlt a h; omega
      · rintro (h1 | h1)
        · have := hK.low _ h1; omega
        · omega
      · rintro (h1 | h1)
        · have := hK.low _ h1; omega
        · omega
      · rintro (h1 | h1)
        · have := hK.low _ h1; omega
        · omega
      · rintro (h1 | h1)
        · have := hK.low _ h1; omega
        · omega
      · exact (hMx (m + i) a (d1 a hD)).2.2.2.2
    · rcases h with h | h
      · have := hK.low _ h; omega
      · omega
  refine ⟨R', hKn, hsub, rl4, rl5, rlT, rlE, ?_, ?_, fun i ps hps => ?_, fun i hi => ?_, hsz⟩
  · obtain ⟨f, q1⟩ := h4
    simp [World.cell?, q1]
  · obtain ⟨f, q1⟩ := h5
    simp [World.cell?, q1]
  · have hi : i < n := by have := (List.getElem?_eq_some_iff.1 hps).1; omega
    obtain ⟨vP, ps', n', tp, a1, a2, b1, b2, b3⟩ := htree i hi
    rw [hps] at a2; cases a2
    obtain ⟨_, _, _, _, _, _, a5⟩ := hx i hi
    rw [b1] at a5
    exact ⟨n', tp, a5, b2.weaken fun b hb _ hR => (hMx (m + i) b hb).2.1 (hL b hR), b3⟩
  · obtain ⟨_, _, _, _, _, a4, _⟩ := hx i hi
    exact a4
end

end Go.Proofs.Ytcgjppacnhmjlaa.Sim
end
