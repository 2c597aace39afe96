/- Own texts: FwR, FwS. -/
import Derived.Test.YtcgjppacnhmjlaaFmBF
import Derived.Laws.MakeOwn

section
set_option linter.unusedVariables false
set_option linter.unusedSimpArgs false
set_option linter.unusedSectionVars false
/-! treeOfParts: the loop that starts the workers, and the wait for them. -/
namespace Go.Proofs.Ytcgjppacnhmjlaa.Sim
open Go Go.Conc Go.ConcN Go.Conc.Lib Go.ConcR.Gen
open Go.ConcR (KK wgBlock WgAt stA smA rd wr mk Payload DC0)
set_option linter.unusedVariables false
set_option linter.unusedSectionVars false
set_option linter.unusedSimpArgs false

theorem addr_add_at (b o k : Nat) : (⟨b, o, none⟩ : Addr).add ((k : Int).toNat * 1) = ⟨b, o + k, none⟩ := by
  simp only [Addr.add, Int.toNat_natCast, Nat.mul_one]
  split
  · rename_i h; rw [h]; simp
  · simp
theorem cell_set {w : World} {b : Nat} {u v : Value} (h : w.cell? ⟨b, 0, none⟩ = some u) : (w.setCell ⟨b, 0, none⟩ v).cell? ⟨b, 0, none⟩ = some v := by
  unfold World.cell? at h
  split at h
  · rename_i c e f hb
    have hlt : b < w.heap.size := (Array.getElem?_eq_some_iff.1 hb).1
    simp at h
    obtain ⟨hc, _⟩ := Array.getElem?_eq_some_iff.1 h
    simp [World.cell?, World.setCell, Array.getElem?_modify, hb, hc]
  · cases h
theorem cell_set_ne {w : World} {b x o : Nat} {u : Option Value} {v : Value} (hne : b ≠ x) (h : w.cell? ⟨b, o, none⟩ = u) : (w.setCell ⟨x, 0, none⟩ v).cell? ⟨b, o, none⟩ = u := by
  have hb : (w.setCell ⟨x, 0, none⟩ v).heap[b]? = w.heap[b]? := (aside_setCell w ⟨x, 0, none⟩ v).block b hne
  unfold World.cell? at h ⊢
  rw [hb]; exact h
theorem rl_setc {S L : Nat → Prop} {w : World} {x : Nat} {v : Value} (hL : ∀ b, L b → b ≠ x) : Rl S L w (w.setCell ⟨x, 0, none⟩ v) := by
  have h := aside_setCell w ⟨x, 0, none⟩ v
  exact ⟨by rw [h.size]; exact Nat.le_refl _, fun b hb => .of_eq (h.block b (hL b hb)), fun b hb _ => h.block b (hL b hb), h.os, h.output⟩
theorem rl_sub {S L L' : Nat → Prop} {w w1 : World} (h : Rl S L' w w1) (hL : ∀ b, L b → L' b) : Rl S L w w1 := ⟨h.size, fun b hb => h.same b (hL b hb), fun b hb => h.exact b (hL b hb), h.os, h.output⟩
theorem frozen_of {w : World} {b o : Nat} {c : Array Value} {t : TypeId} (h : w.heap[b]? = some (.cells c t (0, 0))) : w.frozen? ⟨b, o, none⟩ = false := by simp [World.frozen?, h]
theorem frozen_new {w : World} {v : Value} {t : TypeId} : (newB w (.cells #[v] t)).frozen? ⟨w.heap.size, 0, none⟩ = false := by
  simp [World.frozen?, newB_new]

section
variable {k : Fk} {Wg m : Nat} {O : Nat → Prop} {Post : Value → World → Prop} {c : Frame} {cs : List Frame} {L0 : Nat → Prop} {w00 : World}
noncomputable abbrev Fk.gH (k : Fk) (Wg : Nat) (c : Frame) (cs : List Frame) (x : Nat → Value) (j : Int) : Goroutine := gH50 k.Pb k.po k.n k.cap k.b4 k.b5 Wg c cs x j
/-- The frame at the wait. -/
noncomputable def Fk.fWt (k : Fk) (Wg : Nat) (c : Frame) (cs : List Frame) (x : Nat → Value) : Frame := hdF (nxtN Try.prog true 7 (setT (nxtN Try.prog true 1 (k.gH Wg c cs x k.n)) 20 (.bool false))).callers

set_option maxRecDepth 100000 in
theorem o_loop50 (ok : k.Ok) (hm : 1 ≤ m) (hL0 : ∀ b, L0 b → b ≠ k.T ∧ b ≠ k.E)
    (hnx : ∀ (L S : Nat → Prop) (x : Nat → Value) (w : World), (∀ b, L0 b → L b) → (∀ b, S b → k.Rd L0 b) → Rl S L0 w00 w → k.F L w → Joined (k.C Wg m O) L (m - 1 + k.n) w → MFg Try.prog Post O (gor ((k.fWt Wg c cs x).finish (.tuple #[])) (c :: cs)) w) :
    ∀ (r j : Nat), r + j = k.n → ∀ (L S : Nat → Prop) (x : Nat → Value) (w0 : World) (vb : Nat), (∀ b, L0 b → L b) → (∀ b, S b → L b) → (∀ b, S b → k.Rd L0 b) → (∀ b, L b → b ≠ k.T ∧ b ≠ k.E) → k.F L w0 → Rl S L0 w00 w0 →
      OFg (k.C Wg m O) Post S L (m - 1 + j) (MoO (k.C Wg m O) (m - 1 + j) 0 vb) 0 (k.gH Wg c cs x j) w0 := by
  have hS := k.stable Wg m O
  have hn16 := ok.len.2.2
  have hCm : (k.C Wg m O).m = m := rfl
  intro r
  induction r with
  | zero =>
    intro j hj L S x w0 vb hL0L hSL hSR hLT hF hr0
    obtain rfl : j = k.n := by omega
    have hn : m - 1 + k.n + 1 - (k.C Wg m O).m < 2147483600 := by rw [hCm]; omega
    have hk := kp_open (C := k.C Wg m O) (J := m - 1 + k.n) (p := 0) (vb := vb) hS hn (by omega)
    refine .kern hS hk (n := 1) (by ((repeat (refine ⟨by kernel_rfl, fun _ => by kernel_rfl, ?_⟩)); exact True.intro)) ?_
    refine .val (i := 20) (v := .bool (decide ((k.n : Int) < (k.n : Int)))) (v' := .bool false) (by kernel_rfl) (by simp) ?_
    refine .kern hS hk (n := 7) (by ((repeat (refine ⟨by kernel_rfl, fun _ => by kernel_rfl, ?_⟩)); exact True.intro)) ?_
    refine .eqv (g' := gW (k.C Wg m O).Wg (k.fWt Wg c cs x) (c :: cs)) (by kernel_rfl) (o_wait rfl rfl hS hn fun w h1 h2 => ?_)
    exact hnx L S x w hL0L hSR (hr0.trans ⟨h1.size, fun b hb => h1.same b (hL0L b hb), fun b hb => h1.exact b (hL0L b hb), h1.os, h1.output⟩) (hF.rl h1) h2
  | succ r ih =>
    intro j hj L S x w0 vb hL0L hSL hSR hLT hF hr0
    have hjn : j < k.n := by omega
    have hn : m - 1 + j + 1 - (k.C Wg m O).m < 2147483600 := by rw [hCm]; omega
    have hk := kp_open (C := k.C Wg m O) (J := m - 1 + j) (p := 0) (vb := vb) hS hn (by omega)
    obtain ⟨v, hv⟩ : ∃ v, k.vs[j]? = some v := ⟨k.vs[j]'(by rw [ok.len.1]; exact hjn), List.getElem?_eq_getElem _⟩
    obtain ⟨ps, hps⟩ : ∃ ps, k.pss[j]? = some ps := ⟨k.pss[j]'(by rw [ok.len.2.1]; exact hjn), List.getElem?_eq_getElem _⟩
    have hone := (hF.parts j v ps hv hps).one
    have ewrap : IntKind.i64.wrap ((j : Int) + 1) = ((j + 1 : Nat) : Int) := by rw [IntKind.wrap_i64]; omega
    refine .kern hS hk (n := 1) (by ((repeat (refine ⟨by kernel_rfl, fun _ => by kernel_rfl, ?_⟩)); exact True.intro)) ?_
    refine .val (i := 20) (v := .bool (decide ((j : Int) < (k.n : Int)))) (v' := .bool true) (by kernel_rfl) (by rw [decide_eq_true (by omega)]) ?_
    refine .kern hS hk (n := 9) (by ((repeat (refine ⟨by kernel_rfl, fun _ => by kernel_rfl, ?_⟩)); exact True.intro)) ?_
    refine .ix hS hk (by kernel_rfl) (b1_at k.Pb k.po k.n k.cap k.b4 k.b5 Wg c cs x j) (t := 47) (x := .tmp 17) (y := .tmp 19) (e := 48) (n := 1) (a := ⟨k.Pb, k.po, none⟩) (l := k.n) (c := k.cap) (k := (j : Int)) (by kernel_rfl) (by kernel_rfl) (by kernel_rfl) ⟨by omega, by omega⟩ Try.runUnderlying47 Try.sizeOf48 ?_
    rw [addr_add_at]
    refine .ld hS hk (by kernel_rfl) (b2_at k.Pb k.po k.n k.cap k.b4 k.b5 Wg c cs x j (k.po + j)) (t := 48) (x := .tmp 22) (a := ⟨k.Pb, k.po + j, none⟩) (v := v) (by kernel_rfl) (by kernel_rfl) Try.isAgg48 hF.pb (hF.cell j v hv) ?_
    refine .new hS hk (by kernel_rfl) (.cells #[.int .i64 0] 3) (fun b7 => gB4 k.Pb k.po k.n k.cap k.b4 k.b5 Wg c cs x j (k.po + j) v b7) (fun w => by kernel_rfl) fun w1 hr1 hf1 hL1 => ?_
    generalize hb7 : w1.heap.size = b7
    refine .new hS hk (by kernel_rfl) (.cells #[.slice none 0 0] 48) (fun b8 => gB5 k.Pb k.po k.n k.cap k.b4 k.b5 Wg c cs x j (k.po + j) v b7 b8) (fun w => by kernel_rfl) fun w2 hr2 hf2 hL2 => ?_
    generalize hb8 : w2.heap.size = b8
    have hLlt : ∀ b, L b → b < b7 := fun b hb => by rw [← hb7]; exact (hL1 b hb).1
    have h78 : b7 < b8 := by rw [← hb8]; exact (hL2 b7 (.inr rfl)).1
    have hSn7 : ¬ S b7 := fun h => by have := hLlt b7 (hSL b7 h); omega
    have hSn8 : ¬ S b8 := fun h => by have := hLlt b8 (hSL b8 h); omega
    have hWT : k.T < b7 ∧ k.E < b7 ∧ Wg < b7 := by
      obtain ⟨_, t1, _⟩ := hf1.T
      obtain ⟨_, _, _, e1, _⟩ := hf1.E
      obtain ⟨_, _, g1⟩ := hf1.wg
      rw [← hb7]
      exact ⟨(Array.getElem?_eq_some_iff.1 t1).1, (Array.getElem?_eq_some_iff.1 e1).1, (Array.getElem?_eq_some_iff.1 g1).1⟩
    have q7 : w2.heap[b7]? = some (.cells #[.int .i64 0] 3) := (hr2.exact b7 (.inr rfl) hSn7).trans (by rw [← hb7]; exact newB_new w1 _)
    have p7 : (newB w2 (.cells #[.slice none 0 0] 48)).heap[b7]? = some (.cells #[.int .i64 0] 3) := (newB_old _ _ (by rw [hb8]; exact h78)).trans q7
    have p8 : (newB w2 (.cells #[.slice none 0 0] 48)).heap[b8]? = some (.cells #[.slice none 0 0] 48) := by rw [← hb8]; exact newB_new w2 _
    have hR3 : Rl S L w0 (newB w2 (.cells #[.slice none 0 0] 48)) := (hr1.trans (rl_new (fun b hb => (hL1 b hb).1) _)).trans ((rl_sub hr2 fun b => .inl).trans (rl_new (fun b hb => (hL2 b (.inl hb)).1) _))
    generalize newB w2 (.cells #[.slice none 0 0] 48) = w3 at p7 p8 hR3
    refine .st hS hk (by kernel_rfl) (b5_at k.Pb k.po k.n k.cap k.b4 k.b5 Wg c cs x j (k.po + j) v b7 b8) (t := 3) (x := .tmp 7) (y := .tmp 21) (a := ⟨b7, 0, none⟩) (v := .int .i64 j) (u := .int .i64 0) (by kernel_rfl) (by kernel_rfl) (by kernel_rfl) rfl Try.sizeOf3 (.inl (.inr rfl)) hSn7 (by show b7 ≠ Wg; omega) (by simp [World.cell?, p7]) (frozen_of p7) fun w4 hr4 => ?_
    have q8 : (w4.setCell ⟨b7, 0, none⟩ (.int .i64 j)).heap[b8]? = some (.cells #[.slice none 0 0] 48) := ((aside_setCell w4 ⟨b7, 0, none⟩ _).block b8 (by show b8 ≠ b7; omega)).trans ((hr4.exact b8 (.inr rfl) hSn8).trans p8)
    have q7' : (w4.setCell ⟨b7, 0, none⟩ (.int .i64 j)).cell? ⟨b7, 0, none⟩ = some (.int .i64 j) := cell_set (u := .int .i64 0) (hr4.cell (.inl (.inr rfl)) (by simp [World.cell?, p7]))
    have hR4 : Rl S L w0 (w4.setCell ⟨b7, 0, none⟩ (.int .i64 j)) := hR3.trans ((rl_sub hr4 fun b hb => .inl (.inl hb)).trans (rl_setc fun b hb => by have := hLlt b hb; omega))
    generalize w4.setCell ⟨b7, 0, none⟩ (.int .i64 j) = w4' at q8 q7' hR4
    refine .st hS hk (by kernel_rfl) (b6_at k.Pb k.po k.n k.cap k.b4 k.b5 Wg c cs x j (k.po + j) v b7 b8) (t := 48) (x := .tmp 8) (y := .tmp 23) (a := ⟨b8, 0, none⟩) (v := v) (u := .slice none 0 0) (by kernel_rfl) (by kernel_rfl) (by kernel_rfl) hone Try.sizeOf48 (.inr rfl) hSn8 (by show b8 ≠ Wg; omega) (by simp [World.cell?, q8]) (frozen_of q8) fun w5 hr5 => ?_
    have c8 : (w5.setCell ⟨b8, 0, none⟩ v).cell? ⟨b8, 0, none⟩ = some v := cell_set (u := .slice none 0 0) (hr5.cell (.inr rfl) (by simp [World.cell?, q8]))
    have c7 : (w5.setCell ⟨b8, 0, none⟩ v).cell? ⟨b7, 0, none⟩ = some (.int .i64 j) := cell_set_ne (by omega) (hr5.cell (.inl (.inr rfl)) q7')
    have hR6 : Rl S L w0 (w5.setCell ⟨b8, 0, none⟩ v) := hR4.trans ((rl_sub hr5 fun b hb => .inl (.inl hb)).trans (rl_setc fun b hb => by have := hLlt b hb; omega))
    generalize w5.setCell ⟨b8, 0, none⟩ v = w6 at c8 c7 hR6
    have hF6 : k.F (addB (addB L b7) b8) w6 := (hF.rl hR6).mono fun b hb => .inl (.inl hb)
    have hLT' : ∀ b, addB (addB L b7) b8 b → b ≠ k.T ∧ b ≠ k.E := by
      rintro b ((hb | rfl) | rfl)
      · exact hLT b hb
      · omega
      · omega
    have hn2 : m - 1 + j + 2 - (k.C Wg m O).m < 2147483600 := by rw [hCm]; omega
    have hroL : ∀ b, (InS v b ∨ b = b8 ∨ b = k.b4 ∨ b = b7 ∨ b = k.b5) → addB (addB L b7) b8 b := by
      rintro b (h | rfl | rfl | rfl | rfl)
      · exact .inl (.inl ((hF.parts j v ps hv hps).of_inS h))
      · exact .inr rfl
      · exact .inl (.inl hF.l4)
      · exact .inl (.inr rfl)
      · exact .inl (.inl hF.l5)
    refine .kern hS hk (n := 4) (by ((repeat (refine ⟨by kernel_rfl, fun _ => by kernel_rfl, ?_⟩)); exact True.intro)) ?_
    refine .eqv (g' := gG (k.C Wg m O).Wg b8 k.b4 b7 k.b5 (fB k.Pb k.po k.n k.cap k.b4 k.b5 Wg c cs x j (k.po + j) v b7 b8) (c :: cs)) (by kernel_rfl) (o_go (ro := fun b => InS v b ∨ b = b8 ∨ b = k.b4 ∨ b = b7 ∨ b = k.b5) rfl rfl hS hn2 hroL (fun B1 B2 w hr hwf n1 n2 nTE cg cf => ?_) fun B1 B2 w1' hr' n1 n2 nTE => ?_)
    · exact wk_of (i := j) ok (by omega) hv hps (fun b => Iff.rfl) hroL hLT' (hF6.rl hr) hwf nTE (hr.cell (.inr rfl) c8) (hr.cell (.inl (.inr rfl)) c7) cg cf
    · have hk2 := kp_open (C := k.C Wg m O) (J := m - 1 + j + 1) (p := 0) (vb := vb + 1) hS (by rw [hCm]; omega) (by omega)
      refine .kern hS hk2 (n := 4) (by ((repeat (refine ⟨by kernel_rfl, fun _ => by kernel_rfl, ?_⟩)); exact True.intro)) ?_
      refine .val (i := 26) (v := .int .i64 (IntKind.i64.wrap ((j : Int) + 1))) (v' := .int .i64 ((j + 1 : Nat) : Int)) (by kernel_rfl) (by rw [ewrap]) ?_
      refine .kern hS hk2 (n := 5) (by ((repeat (refine ⟨by kernel_rfl, fun _ => by kernel_rfl, ?_⟩)); exact True.intro)) ?_
      have nL0 : ∀ b, L0 b → b < b7 := fun b hb => hLlt b (hL0L b hb)
      have := ih (j + 1) (by omega) (addB (addB (addB (addB L b7) b8) B1) B2) (fun b => S b ∨ ((InS v b ∨ b = b8 ∨ b = k.b4 ∨ b = b7 ∨ b = k.b5) ∨ b = B1 ∨ b = B2))
        (xF (nxtN Try.prog true 5 (setT (nxtN Try.prog true 4 (gor ((fB k.Pb k.po k.n k.cap k.b4 k.b5 Wg c cs x j (k.po + j) v b7 b8).finish (.tuple #[])) (c :: cs))) 26 (.int .i64 ((j + 1 : Nat) : Int)))).frame) w1' (vb + 1)
        (fun b hb => .inl (.inl (.inl (.inl (hL0L b hb))))) ?_ ?_ ?_ ((hF6.rl hr').mono fun b hb => .inl (.inl hb)) ?_
      · rw [← Nat.add_assoc] at this
        exact .eqv (by kernel_rfl) this
      · rintro b (h | h | rfl | rfl)
        · exact .inl (.inl (.inl (.inl (hSL b h))))
        · exact .inl (.inl (hroL b h))
        · exact .inl (.inr rfl)
        · exact .inr rfl
      · rintro b (h | (h | rfl | rfl | rfl | rfl) | rfl | rfl)
        · exact hSR b h
        · exact .inl ⟨v, List.mem_of_getElem? hv, h⟩
        · exact .inr (.inr (.inr fun h => by have := nL0 _ h; omega))
        · exact .inr (.inl rfl)
        · exact .inr (.inr (.inr fun h => by have := nL0 _ h; omega))
        · exact .inr (.inr (.inl rfl))
        · exact .inr (.inr (.inr fun h => n1 (.inl (.inl (hL0L _ h)))))
        · exact .inr (.inr (.inr fun h => n2 (.inl (.inl (hL0L _ h)))))
      · rintro b ((h | rfl) | rfl)
        · exact hLT' b h
        · exact ⟨nTE.1, nTE.2.1⟩
        · exact ⟨nTE.2.2.1, nTE.2.2.2⟩
      · exact ((hr0.trans (rl_sub hR6 hL0L)).trans (rl_sub hr' fun b hb => .inl (.inl (hL0L b hb)))).mono fun b hb => .inl hb
end

end Go.Proofs.Ytcgjppacnhmjlaa.Sim
end

section
set_option linter.unusedVariables false
set_option linter.unusedSimpArgs false
set_option linter.unusedSectionVars false
/-! treeOfParts: ahead of the fork. -/
namespace Go.Proofs.Ytcgjppacnhmjlaa.Sim
open Go Go.Conc Go.ConcN Go.Conc.Lib Go.ConcR.Gen
open Go.ConcR (KK wgBlock WgAt stA smA rd wr mk Payload DC0)
set_option linter.unusedVariables false
set_option linter.unusedSectionVars false
set_option linter.unusedSimpArgs false

section
variable {P : Program} {g : Goroutine} {i : Nat} {w w' : World} {main : Bool} {ev : Operand → Value} {o : Oper} {t e : TypeId} {x y : Operand} {a : Addr} {v u : Value}
/-- make of few. -/
theorem ex_make {ti : TypeInfo} {z : Value} {n : Nat} (hop : o.op = .makeSlice t x x) (hx : ev x = .int .i64 n) (ht : P.underlying t = some (.slice e)) (hi : P.info? e = some ti) (hz : ti.zero = some z) (hb : ti.bytes ≤ 16) (hs : ti.size = 1) (hn : n ≤ 16) :
    (execOp ev o).run P w = .ok (.value (.slice (some ⟨w.heap.size, 0, none⟩) n n)) (newB w (.cells (madeCells z.cells (n * ti.size)) e)) ∧ (execOp ev o).events P w #[] = #[] := by
  have hm : ti.bytes * n ≤ 16 * 16 := Nat.mul_le_mul hb hn
  have hb' : (ti.bytes : Int) * (n : Int) ≤ 281474976710656 := by
    have : ((ti.bytes * n : Nat) : Int) ≤ 256 := by omega
    rw [Int.natCast_mul] at this; omega
  have h1 := run_makeSlice (P := P) (w := w) t e ti z ht hi hz .i64 .i64 n n (by omega) (Int.le_refl _) (by rw [hs]; simp; omega) hb' (by omega)
  simp only [Int.toNat_natCast] at h1
  constructor
  · simp [execOp, hop, hx, go_sem, h1]
    rfl
  · have wl : IntKind.i64.wrap (n : Int) = (n : Int) := by rw [IntKind.wrap_i64]; omega
    have n1 : ¬ (n : Int) < 0 := by omega
    have n2 : ¬ (281474976710656 < (ti.bytes : Int) * (n : Int)) := by omega
    have n3 : ¬ (roomBytes < n * ti.bytes) := by rw [Nat.mul_comm n]; unfold roomBytes; omega
    by_cases hn0 : n = 0
    · simp [execOp, hop, hx, go_sem, Instr.makeSlice, run_underlying ht, asInt, asIntOf, typeInfo, hi, sizeOf, zeroValue, hz, hs, wl, n1, n2, newRow, askRoom, n3, hn0, Result.evThen]
      intro _ _ _
      have : IntKind.i64.wrap 0 = 0 := by decide
      rw [this]; simp
    · simp [execOp, hop, hx, go_sem, Instr.makeSlice, run_underlying ht, asInt, asIntOf, typeInfo, hi, sizeOf, zeroValue, hz, hs, wl, n1, n2, newRow, askRoom, n3, hn0, Result.evThen]
theorem step_make {ti : TypeInfo} {z : Value} {n : Nat} (h : AtR g i) (hop : (oG g).op = .makeSlice t x x) (hx : (aG g).eval x = .int .i64 n) (ht : P.underlying t = some (.slice e)) (hi : P.info? e = some ti) (hz : ti.zero = some z) (hb : ti.bytes ≤ 16) (hs : ti.size = 1) (hn : n ≤ 16) :
    stepG P main g w = .go (putG g (.slice (some ⟨w.heap.size, 0, none⟩) n n)) (newB w (.cells (madeCells z.cells n) e)) #[] := by
  obtain ⟨h1, h2⟩ := ex_make (P := P) (w := w) hop hx ht hi hz hb hs hn
  rw [hs, Nat.mul_one] at h1
  rw [step_value h h1]
  unfold listed
  rw [h2, seen_none]
end

section
variable {P : Program} {Post : Value → World → Prop} {O : Nat → Prop} {g : Goroutine} {w : World}
theorem MFg.new (hrun : g.status = .running) (o : Obj) (gn : Nat → Goroutine) (h : ∀ w, stepG P true g w = .go (gn w.heap.size) (newB w o) #[]) (hn : MFg P Post O (gn w.heap.size) (newB w o)) : MFg P Post O g w :=
  .step hrun fun tp d => ⟨_, _, #[], h _, by simp [newB, Sim.re], fun e he => by simp at he, hn.re (tp := tp) (d := d)⟩
theorem evm_cell {B : Nat} {a : Addr} {wr : Bool} (hO : ¬ O a.block) (hB : a.block < B) : EvM O B ⟨.cell a, wr, false⟩ := by
  refine ⟨⟨fun x hx hs => ?_, by simp, by simp, hB⟩, by simp, by simp, by simp⟩
  simp only [MemAct.ofEvent, MemAct.touch?, Option.some.injEq] at hx
  subst hx
  obtain ⟨a', e', hO'⟩ := hs
  cases e'
  exact absurd hO' hO
theorem MFg.st {i : Nat} {t : TypeId} {x y : Operand} {a : Addr} {v u : Value} (hrun : g.status = .running) (h : AtR g i) (hop : (oG g).op = .store t x y) (hx : (aG g).eval x = .pointer (some a)) (hy : (aG g).eval y = v) (hv : v.oneCell' = true) (hs : ∀ w, (sizeOf t).run P w = .ok 1 w) (hO : ¬ O a.block) (hc : w.cell? a = some u) (hz : w.frozen? a = false)
    (hn : MFg P Post O (putG g undef) (w.setCell a v)) : MFg P Post O g w := by
  have has := aside_setCell w a v
  have hlt : a.block < w.heap.size := World.block_lt_of_cell? _ _ hc
  refine .step hrun fun tp d => ⟨_, _, _, step_st h hop hx hy hv (hs _) (show (Sim.re w tp d).cell? a = some u from hc) (show (Sim.re w tp d).frozen? a = false from hz), ?_, fun e he => ?_, hn.re (tp := tp) (d := d)⟩
  · show w.heap.size ≤ (w.setCell a v).heap.size
    rw [has.size]; exact Nat.le_refl _
  · have := seen_cell _ _ _ e he
    subst this
    refine evm_cell hO ?_
    show a.block < (w.setCell a v).heap.size
    rw [has.size]; exact hlt
theorem MFg.ldv {i : Nat} {t : TypeId} {x : Operand} {a : Addr} {v : Value} (hrun : g.status = .running) (h : AtR g i) (hop : (oG g).op = .load t x) (hx : (aG g).eval x = .pointer (some a)) (hg : ∀ w, (isAgg t).run P w = .ok false w) (hO : ¬ O a.block) (hc : w.cell? a = some v) (hn : MFg P Post O (putG g v) w) : MFg P Post O g w := by
  have hlt : a.block < w.heap.size := World.block_lt_of_cell? _ _ hc
  refine .step hrun fun tp d => ⟨_, _, _, step_ld h hop hx (hg _) (show (Sim.re w tp d).cell? a = some v from hc), Nat.le_refl _, fun e he => ?_, hn.re (tp := tp) (d := d)⟩
  have := seen_cell _ _ _ e he
  subst this
  exact evm_cell hO hlt
end

end Go.Proofs.Ytcgjppacnhmjlaa.Sim
end
