/- Own texts: FxE, FxF. -/
import Derived.Test.YtcgjppacnhmjlaaFmBJ

section
set_option linter.unusedVariables false
set_option linter.unusedSimpArgs false
set_option linter.unusedSectionVars false
/-! The law's own function: where it stands. -/
namespace Go.Proofs.Ytcgjppacnhmjlaa.Sim
open Go Go.Conc Go.ConcN Go.Conc.Lib Go.ConcR.Gen Go.RowKit
set_option linter.unusedVariables false
set_option linter.unusedSectionVars false
set_option linter.unusedSimpArgs false

noncomputable def B6 : Code := (Try.f6.body).getD .skip
def cd : List Nat → Code → Code
  | [], c => c
  | 0 :: p, c => cd p (nl c)
  | 1 :: p, c => cd p (nr c)
  | 2 :: p, c => cd p (nb c)
  | 3 :: p, c => cd p (nt c)
  | _ :: p, c => cd p (ne c)
/-- The function stands so. -/
noncomputable def G6 (tm : Array Value) (it : List Item) : Goroutine := gor { fn := 6, tmps := tm, todo := it, defers := [], mode := .run, kind := .normal } []
/-- Its places. -/
def T6 (x y u : Nat → Value) (v0 v1 v6 v7 v8 v9 v10 v11 v12 v13 v14 v15 : Value) : Array Value := #[v0, v1, x 2, x 3, x 4, x 5, v6, v7, v8, v9, v10, v11, v12, v13, v14, v15, undef, undef, undef, undef, undef, undef, undef, undef, x 24, x 25, x 26, x 27, x 28, x 29, x 30, x 31, x 32, x 33, x 34, x 35, x 36, x 37, x 38, x 39, x 40, x 41, x 42, x 43, x 44, y 45, y 46, y 47, y 48, y 49, y 50, y 51, y 52, y 53, y 54, y 55, x 56, x 57, x 58, x 59, u 60, u 61, u 62, u 63, u 64, u 65, u 66, u 67, x 68, x 69, x 70, x 71, x 72, x 73, x 74, x 75, x 76, x 77, x 78, x 79, x 80, x 81, x 82, x 83, x 84, x 85, x 86, x 87, x 88, x 89, x 90, x 91, x 92, x 93, x 94, x 95, x 96, x 97, x 98, x 99, x 100, x 101, x 102, x 103, undef, undef, undef, undef, undef, undef, undef, undef, undef, undef, undef, undef, undef, undef, undef, undef, undef, undef, x 122, x 123, x 124, x 125, x 126, x 127, undef, undef, undef, undef, undef, undef, undef, undef, undef, undef, undef, undef, undef, undef, undef, undef, undef, undef, undef, undef, undef, undef, undef, undef, undef, undef, undef, undef, undef]
noncomputable def iL6 : List Item := [.code (cd [1, 1, 1, 1, 1, 1, 1, 1, 0, 1, 2, 2] B6), .inLoop (cd [1, 1, 1, 1, 1, 1, 1, 1, 0, 1, 2, 2] B6), .inBlock 0, .code (cd [1, 1, 1, 1, 1, 1, 1, 1, 1] B6)]
noncomputable def iR12 : List Item := [.code (cd [1, 1, 1, 1, 1, 1, 1, 1, 0, 1, 2, 2, 1, 0, 2, 0] B6), .code (cd [1, 1, 1, 1, 1, 1, 1, 1, 0, 1, 2, 2, 1, 0, 2, 1] B6), .inBlock 1, .code (cd [1, 1, 1, 1, 1, 1, 1, 1, 0, 1, 2, 2, 1, 1] B6), .inLoop (cd [1, 1, 1, 1, 1, 1, 1, 1, 0, 1, 2, 2] B6), .inBlock 0, .code (cd [1, 1, 1, 1, 1, 1, 1, 1, 1] B6)]
noncomputable def iR13 : List Item := [.code (cd [1, 1, 1, 1, 1, 1, 1, 1, 0, 1, 2, 2, 1, 0, 2, 1] B6), .inBlock 1, .code (cd [1, 1, 1, 1, 1, 1, 1, 1, 0, 1, 2, 2, 1, 1] B6), .inLoop (cd [1, 1, 1, 1, 1, 1, 1, 1, 0, 1, 2, 2] B6), .inBlock 0, .code (cd [1, 1, 1, 1, 1, 1, 1, 1, 1] B6)]
noncomputable def iR14 : List Item := [.code (cd [1, 1, 1, 1, 1, 1, 1, 1, 0, 1, 2, 2, 1, 0, 2, 1, 1, 0] B6), .code (cd [1, 1, 1, 1, 1, 1, 1, 1, 0, 1, 2, 2, 1, 0, 2, 1, 1, 1] B6), .inBlock 1, .code (cd [1, 1, 1, 1, 1, 1, 1, 1, 0, 1, 2, 2, 1, 1] B6), .inLoop (cd [1, 1, 1, 1, 1, 1, 1, 1, 0, 1, 2, 2] B6), .inBlock 0, .code (cd [1, 1, 1, 1, 1, 1, 1, 1, 1] B6)]
noncomputable def iR15 : List Item := [.code (cd [1, 1, 1, 1, 1, 1, 1, 1, 0, 1, 2, 2, 1, 0, 2, 1, 1, 1] B6), .inBlock 1, .code (cd [1, 1, 1, 1, 1, 1, 1, 1, 0, 1, 2, 2, 1, 1] B6), .inLoop (cd [1, 1, 1, 1, 1, 1, 1, 1, 0, 1, 2, 2] B6), .inBlock 0, .code (cd [1, 1, 1, 1, 1, 1, 1, 1, 1] B6)]
noncomputable def iK6 : List Item := [.code (cd [1, 1, 1, 1, 1, 1, 1, 1, 0, 1, 2, 2, 1, 0, 2, 1, 1, 1, 1, 0, 1, 2, 2] B6), .inLoop (cd [1, 1, 1, 1, 1, 1, 1, 1, 0, 1, 2, 2, 1, 0, 2, 1, 1, 1, 1, 0, 1, 2, 2] B6), .inBlock 2, .code (cd [1, 1, 1, 1, 1, 1, 1, 1, 0, 1, 2, 2, 1, 0, 2, 1, 1, 1, 1, 1] B6), .inBlock 1, .code (cd [1, 1, 1, 1, 1, 1, 1, 1, 0, 1, 2, 2, 1, 1] B6), .inLoop (cd [1, 1, 1, 1, 1, 1, 1, 1, 0, 1, 2, 2] B6), .inBlock 0, .code (cd [1, 1, 1, 1, 1, 1, 1, 1, 1] B6)]
noncomputable def iX6 : List Item := [.code (cd [1, 1, 1, 1, 1, 1, 1, 1, 0, 1, 2, 2, 1, 0, 2, 1, 1, 1, 1, 1] B6), .inBlock 1, .code (cd [1, 1, 1, 1, 1, 1, 1, 1, 0, 1, 2, 2, 1, 1] B6), .inLoop (cd [1, 1, 1, 1, 1, 1, 1, 1, 0, 1, 2, 2] B6), .inBlock 0, .code (cd [1, 1, 1, 1, 1, 1, 1, 1, 1] B6)]
noncomputable def iT6 : List Item := [.code (cd [1, 1, 1, 1, 1, 1, 1, 1, 1, 1, 0, 1, 2, 2] B6), .inLoop (cd [1, 1, 1, 1, 1, 1, 1, 1, 1, 1, 0, 1, 2, 2] B6), .inBlock 4, .code (cd [1, 1, 1, 1, 1, 1, 1, 1, 1, 1, 1] B6)]

section
variable {Post : Value → World → Prop} {O : Nat → Prop} {g : Goroutine} {w : World}
theorem MFg.lit {tm : (Nat → Value) → Array Value} {it : List Item} (h : g = G6 (tm (xF g.frame)) it) (hn : ∀ x, MFg Try.prog Post O (G6 (tm x) it) w) : MFg Try.prog Post O g w := by rw [h]; exact hn _
end
/-- Numbers that lie where a slice says. -/
def IntO (w : World) (ao : Option Addr) (is : List Int) : Prop := ∀ (i : Nat) c, is[i]? = some c → ∃ k o, ao = some ⟨k, o, none⟩ ∧ w.cell? ⟨k, o + i, none⟩ = some (.int .i64 c)

section
variable {Post : Value → World → Prop} {O : Nat → Prop} {w : World} {y u : Nat → Value} {v0 v6 v7 v8 v9 v10 v12 v15 : Value} {co : Option Addr} {c1 : Nat} {is : List Int} {i : Int}
set_option maxRecDepth 100000 in
theorem m_cuts (hI : IntO w co is) (hO : ∀ a, co = some a → ¬ O a.block) (hlen : is.length ≤ 9223372036854775807)
    (hnx : ∀ x b v14, MFg Try.prog Post O (G6 (T6 x y u v0 (.slice co is.length c1) v6 v7 v8 v9 v10 (.int .i64 i) v12 (.bool b) v14 v15) iX6) w) :
    ∀ (r k : Nat), r + k = is.length → ∀ x b, MFg Try.prog Post O (G6 (T6 x y u v0 (.slice co is.length c1) v6 v7 v8 v9 v10 (.int .i64 i) v12 (.bool b) (.int .i64 (k : Int)) v15) iK6) w := by
  intro r
  induction r with
  | zero =>
    intro k hk x b
    refine .kern (n := 7) (by ((repeat (refine ⟨by kernel_rfl, fun _ => by kernel_rfl, ?_⟩)); exact True.intro)) ?_
    refine .val (i := 71) (v := .bool (decide ((k : Int) < (is.length : Int)))) (v' := .bool false) (by kernel_rfl) (by rw [decide_eq_false (by omega)]) ?_
    refine .kern (n := 3) (by ((repeat (refine ⟨by kernel_rfl, fun _ => by kernel_rfl, ?_⟩)); exact True.intro)) ?_
    exact .lit (tm := fun x => T6 x y u v0 (.slice co is.length c1) v6 v7 v8 v9 v10 (.int .i64 i) v12 (.bool b) (.int .i64 (k : Int)) v15) (by kernel_rfl) fun x => hnx x b _
  | succ r ih =>
    intro k hk x b
    have ewrap : IntKind.i64.wrap ((k : Int) + 1) = ((k + 1 : Nat) : Int) := by rw [IntKind.wrap_i64]; omega
    refine .kern (n := 7) (by ((repeat (refine ⟨by kernel_rfl, fun _ => by kernel_rfl, ?_⟩)); exact True.intro)) ?_
    refine .val (i := 71) (v := .bool (decide ((k : Int) < (is.length : Int)))) (v' := .bool true) (by kernel_rfl) (by rw [decide_eq_true (by omega)]) ?_
    cases b with
    | true =>
      refine .kern (n := 21) (by ((repeat (refine ⟨by kernel_rfl, fun _ => by kernel_rfl, ?_⟩)); exact True.intro)) ?_
      refine .val (i := 73) (v := .int .i64 (IntKind.i64.wrap ((k : Int) + 1))) (v' := .int .i64 ((k + 1 : Nat) : Int)) (by kernel_rfl) (by rw [ewrap]) ?_
      refine .kern (n := 3) (by ((repeat (refine ⟨by kernel_rfl, fun _ => by kernel_rfl, ?_⟩)); exact True.intro)) ?_
      exact .lit (tm := fun x => T6 x y u v0 (.slice co is.length c1) v6 v7 v8 v9 v10 (.int .i64 i) v12 (.bool true) (.int .i64 ((k + 1 : Nat) : Int)) v15) (by kernel_rfl) fun x => ih (k + 1) (by omega) x true
    | false =>
      obtain ⟨c, hc⟩ : ∃ c, is[k]? = some c := ⟨is[k]'(by omega), List.getElem?_eq_getElem (by omega)⟩
      obtain ⟨kb, o, rfl, hcell⟩ := hI k c hc
      have hOk : ¬ O kb := hO _ rfl
      refine .kern (n := 10) (by ((repeat (refine ⟨by kernel_rfl, fun _ => by kernel_rfl, ?_⟩)); exact True.intro)) ?_
      refine .ixv (i := 4) (by kernel_rfl) ⟨by kernel_rfl, by kernel_rfl, by kernel_rfl, by kernel_rfl⟩ (t := 42) (x := .tmp 76) (y := .tmp 77) (e := 3) (n := 1) (a := ⟨kb, o, none⟩) (l := is.length) (c := c1) (k := (k : Int)) (by kernel_rfl) (by kernel_rfl) (by kernel_rfl) ⟨by omega, by omega⟩ Try.runUnderlying42 Try.sizeOf3 ?_
      rw [show (⟨kb, o, none⟩ : Addr).add ((k : Int).toNat * 1) = ⟨kb, o + k, none⟩ by simp [Addr.add]]
      refine .ldv (i := 5) (by kernel_rfl) ⟨by kernel_rfl, by kernel_rfl, by kernel_rfl, by kernel_rfl⟩ (t := 3) (x := .tmp 78) (a := ⟨kb, o + k, none⟩) (v := .int .i64 c) (by kernel_rfl) (by kernel_rfl) Try.isAgg3 hOk hcell ?_
      refine .kern (n := 2) (by ((repeat (refine ⟨by kernel_rfl, fun _ => by kernel_rfl, ?_⟩)); exact True.intro)) ?_
      obtain ⟨q, hq⟩ : ∃ q, q = decide (c = i) := ⟨_, rfl⟩
      refine .val (i := 81) (v := .bool (decide (c = i))) (v' := .bool q) (by kernel_rfl) (by rw [hq]) ?_
      refine .kern (n := 7) (by ((repeat (refine ⟨by kernel_rfl, fun _ => by kernel_rfl, ?_⟩)); exact True.intro)) ?_
      refine .val (i := 73) (v := .int .i64 (IntKind.i64.wrap ((k : Int) + 1))) (v' := .int .i64 ((k + 1 : Nat) : Int)) (by kernel_rfl) (by rw [ewrap]) ?_
      refine .kern (n := 3) (by ((repeat (refine ⟨by kernel_rfl, fun _ => by kernel_rfl, ?_⟩)); exact True.intro)) ?_
      exact .lit (tm := fun x => T6 x y u v0 (.slice (some ⟨kb, o, none⟩) is.length c1) v6 v7 v8 v9 v10 (.int .i64 i) v12 (.bool q) (.int .i64 ((k + 1 : Nat) : Int)) v15) (by kernel_rfl) fun x => ih (k + 1) (by omega) x q
end
end Go.Proofs.Ytcgjppacnhmjlaa.Sim
end

section
set_option linter.unusedVariables false
set_option linter.unusedSimpArgs false
set_option linter.unusedSectionVars false
/-! The law's own function: what there is while the parts are made. -/
namespace Go.Proofs.Ytcgjppacnhmjlaa.Sim
open Go Go.Conc Go.ConcN Go.Conc.Lib Go.ConcR.Gen Go.RowKit
set_option linter.unusedVariables false
set_option linter.unusedSectionVars false
set_option linter.unusedSimpArgs false

/-! The pairs. -/
def prOf (i : Nat) (s : ByteArray) : PP := (s, ((i : Int), (0 : Int), s))
def prs (ss : List ByteArray) : List PP := ss.mapIdx prOf
def cellsP (p : PP) : List Value := [.string p.1, .int .i64 p.2.1, .int .i64 p.2.2.1, .string p.2.2.2]
theorem prs_get {ss : List ByteArray} {i : Nat} {s : ByteArray} (h : ss[i]? = some s) : (prs ss)[i]? = some (prOf i s) := by simp [prs, List.getElem?_mapIdx, h]
theorem prs_len (ss : List ByteArray) : (prs ss).length = ss.length := by simp [prs]
theorem prs_keys {ss : List ByteArray} (h : ∀ s ∈ ss, s.size ≤ 64) : ∀ q ∈ prs ss, q.1.size ≤ 64 := by
  intro q hq
  obtain ⟨i, hi⟩ := List.getElem?_of_mem hq
  have hlt : i < ss.length := by have := (List.getElem?_eq_some_iff.1 hi).1; rwa [prs_len] at this
  rw [prs_get (List.getElem?_eq_getElem hlt)] at hi
  cases hi
  exact h _ (List.getElem_mem hlt)
theorem puts_len (ps : List PP) : ∀ {l : List KV}, Srt l → (puts ps l).length ≤ l.length + ps.length ∧ Srt (puts ps l) := by
  induction ps with
  | nil => intro l hl; exact ⟨by simp [puts], hl⟩
  | cons p ps ih =>
    intro l hl
    have h1 := len_ins_le (kof p.1) p.2 l hl
    have h2 := ih (l := ins (kof p.1) p.2 l) (srt_ins hl)
    have e : puts (p :: ps) l = puts ps (ins (kof p.1) p.2 l) := rfl
    rw [e]
    exact ⟨by have := h2.1; simp; omega, h2.2⟩

/-! Rows. -/
theorem RowQ.form {Pl : Value → Prop} {w : World} {base : Nat} {e : TypeId} {size : Nat} {v : Value} {n : Nat} {xs : List Value} (h : RowQ Pl w base e size v n xs) : ∃ a c, v = .slice a n c := by
  rcases h.2 with ⟨rfl, rfl⟩ | ⟨g, cap, cur, rfl, _⟩
  · exact ⟨none, 0, rfl⟩
  · exact ⟨_, _, rfl⟩
theorem RowQ.type {Pl : Value → Prop} {w : World} {base : Nat} {e : TypeId} {size : Nat} {v : Value} {n : Nat} {xs : List Value} (h : RowQ Pl w base e size v n xs) {b : Nat} (hb : v.ownBlock = some b) : ∃ cur, w.heap[b]? = some (.cells cur e (0, 0)) := by
  rcases h.2 with ⟨rfl, rfl⟩ | ⟨g, cap, cur, rfl, h2, h3, _⟩
  · cases hb
  · cases hb; exact ⟨cur, h3⟩
theorem RowQ.ne {Pl Pl' : Value → Prop} {w : World} {base base' : Nat} {e e' : TypeId} {size size' : Nat} {v v' : Value} {n n' : Nat} {xs xs' : List Value} (h : RowQ Pl w base e size v n xs) (h' : RowQ Pl' w base' e' size' v' n' xs') (he : e ≠ e') {b : Nat} (hb : v.ownBlock = some b) : v'.ownBlock ≠ some b := by
  intro hb'
  obtain ⟨c1, h1⟩ := h.type hb
  obtain ⟨c2, h2⟩ := h'.type hb'
  rw [h1] at h2
  cases h2
  exact he rfl
theorem RowQ.grh {Pl : Value → Prop} {w w' : World} {base : Nat} {e : TypeId} {size : Nat} {v : Value} {n : Nat} {xs : List Value} {row : Option Nat} (h : RowQ Pl w base e size v n xs) (hg : GrH row w w') (hne : ∀ b, v.ownBlock = some b → row ≠ some b) : RowQ Pl w' base e size v n xs :=
  h.keep fun k hk => hg.block k (h.ge hk).2 fun e => hne k hk e.symm
theorem Bel.grh {w w' : World} (h : Bel w w') : GrH none w w' := ⟨h.size, fun k hk _ => h.block k hk, h.os, h.output⟩
theorem GrH.bel {row : Option Nat} {w0 w w' : World} (h : GrH row w w') (hb : Bel w0 w) (hr : ∀ b, row = some b → w0.heap.size ≤ b) : Bel w0 w' :=
  ⟨Nat.le_trans hb.size h.size, fun b hb' => (h.block b (Nat.lt_of_lt_of_le hb' hb.size) fun e => by have := hr b e.symm; omega).trans (hb.block b hb'), h.os.trans hb.os, h.output.trans hb.output⟩
theorem GrH.trans {row : Option Nat} {w w1 w2 : World} (h : Bel w w1) (h' : GrH row w1 w2) : GrH row w w2 := ⟨Nat.le_trans h.size h'.size, fun k hk hn => (h'.block k (Nat.lt_of_lt_of_le hk h.size) hn).trans (h.block k hk), h'.os.trans h.os, h'.output.trans h.output⟩
theorem treeN_grh {S : Nat → Prop} {n : Nat} {w w' : World} {row : Option Nat} {tp : Option Addr} {l : List KV} (h : TreeN S n w tp l) (hg : GrH row w w') (hr : ∀ b, row = some b → ¬ S b) : TreeN S n w' tp l := by
  rcases h with h | ⟨t, h1, h2⟩
  · exact .inl h
  · have h3 : RepN (fun k => S k ∧ k < w.heap.size) n w t l := h2.weaken fun k a b => ⟨a, b⟩
    exact .inr ⟨t, h1, h3.keep (fun k hk => hg.block k hk.2 fun e => hr k e.symm hk.1) (fun k hk _ => hk.1) (Nat.le_refl _)⟩
theorem index_grh {S : Nat → Prop} {w w' : World} {row : Option Nat} {x : Nat} {l : List KV} (h : IndexAt S w x l) (hg : GrH row w w') (hr : ∀ b, row = some b → ¬ S b) (hx : row ≠ some x) : IndexAt S w' x l := by
  obtain ⟨n, tq, h1, h2⟩ := h.tree
  exact ⟨⟨n, tq, (hg.block x (Array.getElem?_eq_some_iff.1 h1).1 fun e => hx e.symm).trans h1, treeN_grh h2 hg hr⟩, h.out, h.few⟩
theorem index_type {S : Nat → Prop} {w : World} {x : Nat} {l : List KV} (h : IndexAt S w x l) : ∃ c, w.heap[x]? = some (.cells c 98 (0, 0)) := by
  obtain ⟨n, tq, h1, _⟩ := h.tree
  exact ⟨_, h1⟩
theorem index_row {Pl : Value → Prop} {S : Nat → Prop} {w : World} {x : Nat} {l : List KV} (h : IndexAt S w x l) {base : Nat} {e : TypeId} {size : Nat} {v : Value} {n : Nat} {xs : List Value} (hr : RowQ Pl w base e size v n xs) (he : e ≠ 98) : v.ownBlock ≠ some x := by
  intro hb
  obtain ⟨c, h1⟩ := hr.type hb
  obtain ⟨c2, h2⟩ := index_type h
  rw [h1] at h2; cases h2; exact he rfl
theorem vr_slice_block {G : FuncId → Prop} {R : BR} {k n c : Nat} (hd : ∀ a b, R a b → a = b) (h : VR G R (.slice (some ⟨k, 0, none⟩) n c) (.slice (some ⟨k, 0, none⟩) n c)) : R k k := by
  cases h with
  | slice _ _ hh => exact hh.1

/-- What there is at the head of the loop over the keys: i pairs lie in parts, j of them in x. -/
structure P1 (S O : Nat → Prop) (w0 : World) (ss : List ByteArray) (xb yb : Nat) (lv psv pv : Value) (i j : Nat) (vs : List Value) (pss : List (List PP)) (cur : List PP) (R : BR) (w : World) : Prop where
  known : Known Xm O R w
  bel : Bel w0 w
  l : RowQ IsStr w w0.heap.size 9 1 lv ss.length (ss.map .string)
  vl : VR Xm.G R lv lv
  x : IndexAt S w xb (puts ((prs ss).take j) [])
  y : IndexAt S w yb []
  vx : R xb xb
  vy : R yb yb
  low : w0.heap.size ≤ xb ∧ w0.heap.size ≤ yb ∧ xb ≠ yb
  opn : Open S w
  ps : RowQ (fun _ => True) w w0.heap.size 48 1 psv vs.length vs
  vps : VR Xm.G R psv psv
  p : RowQ Plain1 w w0.heap.size 50 4 pv cur.length (cur.flatMap cellsP)
  vp : VR Xm.G R pv pv
  nil : cur = [] → pv = .slice none 0 0
  outS : ∀ b, (psv.ownBlock = some b ∨ pv.ownBlock = some b) → ¬ S b
  done : ∀ (j : Nat) v ps, vs[j]? = some v → pss[j]? = some ps → RowQ Plain1 w w0.heap.size 50 4 v ps.length (ps.flatMap cellsP) ∧ (ps = [] → v = .slice none 0 0) ∧ ∀ b, v.ownBlock = some b → pv.ownBlock ≠ some b
  len : vs.length = pss.length
  sum : pss.flatten ++ cur = (prs ss).take i

section
variable {S O : Nat → Prop} {w0 : World} {ss : List ByteArray} {xb yb : Nat} {lv psv pv : Value} {i j : Nat} {vs : List Value} {pss : List (List PP)} {cur : List PP} {R R' : BR} {w w' : World}
/-- Blocks more. -/
theorem P1.on (h : P1 S O w0 ss xb yb lv psv pv i j vs pss cur R w) (hb : Bel w w') (hK : Known Xm O R' w') (hR : BR.Sub R R') : P1 S O w0 ss xb yb lv psv pv i j vs pss cur R' w' := by
  have hg := hb.grh
  have no : ∀ (v : Value) b, v.ownBlock = some b → (none : Option Nat) ≠ some b := fun _ _ _ e => by cases e
  exact { known := hK, bel := h.bel.trans hb, l := h.l.grh hg (no _), vl := h.vl.mono hR, x := index_bel h.x hb, y := index_bel h.y hb, vx := hR _ _ h.vx, vy := hR _ _ h.vy, low := h.low, opn := fun k hk => h.opn k (Nat.le_trans hb.size hk), ps := h.ps.grh hg (no _), vps := h.vps.mono hR, p := h.p.grh hg (no _), vp := h.vp.mono hR, nil := h.nil, outS := h.outS, done := fun j v ps h1 h2 => ⟨(h.done j v ps h1 h2).1.grh hg (no _), (h.done j v ps h1 h2).2⟩, len := h.len, sum := h.sum }
/-- A pair more, into the part. -/
theorem P1.more {pv' : Value} {s : ByteArray} (h : P1 S O w0 ss xb yb lv psv pv i j vs pss cur R w) (hs : ss[i]? = some s) (hrow : RowQ Plain1 w' w0.heap.size 50 4 pv' (cur.length + 1) (cur.flatMap cellsP ++ cellsP (prOf i s))) (hfr : ∀ b, pv'.ownBlock = some b → pv.ownBlock = some b ∨ w.heap.size ≤ b) (hg : GrH pv.ownBlock w w') (hK : Known Xm O R' w') (hR : BR.Sub R R') (hv : VR Xm.G R' pv' pv') :
    ∃ S', P1 S' O w0 ss xb yb lv psv pv' (i + 1) j vs pss (cur ++ [prOf i s]) R' w' := by
  have hS' : ∀ k, S k → k < w.heap.size → S k ∧ pv'.ownBlock ≠ some k := fun k hk hlt => ⟨hk, fun e => (hfr k e).elim (fun e => h.outS k (.inr e) hk) (fun e => by omega)⟩
  have hout : ∀ b, pv.ownBlock = some b → ¬ (S b ∧ pv'.ownBlock ≠ some b) := fun b hb x => h.outS b (.inr hb) x.1
  refine ⟨fun k => S k ∧ pv'.ownBlock ≠ some k, { known := hK, bel := hg.bel h.bel fun b hb => (h.p.ge hb).1, l := h.l.grh hg fun b hb => h.l.ne h.p (by decide) hb, vl := h.vl.mono hR, x := index_grh (h.x.weaken hS' fun x => h.x.out x.1) hg hout (index_row h.x h.p (by decide)), y := index_grh (h.y.weaken hS' fun x => h.y.out x.1) hg hout (index_row h.y h.p (by decide)), vx := hR _ _ h.vx, vy := hR _ _ h.vy, low := h.low, opn := fun k hk => ⟨h.opn k (Nat.le_trans hg.size hk), fun e => by have := (hrow.ge e).2; omega⟩, ps := h.ps.grh hg fun b hb => h.ps.ne h.p (by decide) hb, vps := h.vps.mono hR, p := by rw [List.flatMap_append]; simpa using hrow, vp := hv, nil := fun e => by simp at e, outS := fun b hb x => ?_, done := fun j v ps h1 h2 => ?_, len := h.len, sum := ?_ }⟩
  · rcases hb with hb | hb
    · exact h.outS b (.inl hb) x.1
    · exact x.2 hb
  · obtain ⟨d1, d2, d3⟩ := h.done j v ps h1 h2
    exact ⟨d1.grh hg d3, d2, fun b hb e => (hfr b e).elim (d3 b hb) fun e => by have := (d1.ge hb).2; omega⟩
  · rw [List.take_add_one, prs_get hs, ← h.sum]; simp
/-- A pair more, into x. -/
theorem P1.put {s : ByteArray} (h : P1 S O w0 ss xb yb lv psv pv i j vs pss cur R w) (hs : ss[j]? = some s) (hI : IndexAt S w' xb (ins (kof s) (prOf j s).2 (puts ((prs ss).take j) []))) (hb : ButH xb w w') (hK : Known Xm O R' w') (hR : BR.Sub R R') : P1 S O w0 ss xb yb lv psv pv i (j + 1) vs pss cur R' w' := by
  have hg : GrH (some xb) w w' := ⟨hb.size, fun k hk hn => hb.block k hk fun e => hn (by rw [e]), hb.os, hb.output⟩
  have no : ∀ {Pl : Value → Prop} {base e size : Nat} {v : Value} {n : Nat} {xs : List Value}, RowQ Pl w base e size v n xs → e ≠ 98 → ∀ b, v.ownBlock = some b → (some xb : Option Nat) ≠ some b := fun hr he b hb' e => index_row h.x hr he (by rw [hb', e])
  exact { known := hK, bel := hg.bel h.bel fun b hb => by cases hb; exact h.low.1, l := h.l.grh hg (no h.l (by decide)), vl := h.vl.mono hR, x := by rw [puts_take_succ _ _ _ (prs_get hs)]; exact hI, y := index_grh h.y hg (fun b e => by cases e; exact h.x.out) (fun e => by cases e; exact h.low.2.2 rfl), vx := hR _ _ h.vx, vy := hR _ _ h.vy, low := h.low, opn := fun k hk => h.opn k (Nat.le_trans hg.size hk), ps := h.ps.grh hg (no h.ps (by decide)), vps := h.vps.mono hR, p := h.p.grh hg (no h.p (by decide)), vp := h.vp.mono hR, nil := h.nil, outS := h.outS, done := fun j v ps h1 h2 => ⟨(h.done j v ps h1 h2).1.grh hg (no (h.done j v ps h1 h2).1 (by decide)), (h.done j v ps h1 h2).2⟩, len := h.len, sum := h.sum }
/-- A part more. -/
theorem P1.cut {psv' : Value} (h : P1 S O w0 ss xb yb lv psv pv i j vs pss cur R w) (hrow : RowQ (fun _ => True) w' w0.heap.size 48 1 psv' (vs.length + 1) (vs ++ [pv])) (hfr : ∀ b, psv'.ownBlock = some b → psv.ownBlock = some b ∨ w.heap.size ≤ b) (hg : GrH psv.ownBlock w w') (hK : Known Xm O R' w') (hR : BR.Sub R R') (hv : VR Xm.G R' psv' psv') :
    ∃ S', P1 S' O w0 ss xb yb lv psv' (.slice none 0 0) i j (vs ++ [pv]) (pss ++ [cur]) [] R' w' := by
  have hS' : ∀ k, S k → k < w.heap.size → S k ∧ psv'.ownBlock ≠ some k := fun k hk hlt => ⟨hk, fun e => (hfr k e).elim (fun e => h.outS k (.inl e) hk) (fun e => by omega)⟩
  have hout : ∀ b, psv.ownBlock = some b → ¬ (S b ∧ psv'.ownBlock ≠ some b) := fun b hb x => h.outS b (.inl hb) x.1
  refine ⟨fun k => S k ∧ psv'.ownBlock ≠ some k, { known := hK, bel := hg.bel h.bel fun b hb => (h.ps.ge hb).1, l := h.l.grh hg fun b hb => h.l.ne h.ps (by decide) hb, vl := h.vl.mono hR, x := index_grh (h.x.weaken hS' fun x => h.x.out x.1) hg hout (index_row h.x h.ps (by decide)), y := index_grh (h.y.weaken hS' fun x => h.y.out x.1) hg hout (index_row h.y h.ps (by decide)), vx := hR _ _ h.vx, vy := hR _ _ h.vy, low := h.low, opn := fun k hk => ⟨h.opn k (Nat.le_trans hg.size hk), fun e => by have := (hrow.ge e).2; omega⟩, ps := by simpa using hrow, vps := hv, p := RowQ.nil _ _ _ _ _, vp := .snil 0 0, nil := fun _ => rfl, outS := fun b hb x => ?_, done := fun j v ps h1 h2 => ?_, len := by simp [h.len], sum := by simpa using h.sum }⟩
  · rcases hb with hb | hb
    · exact x.2 hb
    · cases hb
  · have no : ∀ b, v.ownBlock = some b → Value.ownBlock (.slice none 0 0) ≠ some b := fun b _ e => by cases e
    by_cases hj : j < vs.length
    · rw [List.getElem?_append_left hj] at h1
      rw [List.getElem?_append_left (by rw [← h.len]; exact hj)] at h2
      obtain ⟨d1, d2, d3⟩ := h.done j v ps h1 h2
      exact ⟨d1.grh hg fun b hb => d1.ne h.ps (by decide) hb, d2, no⟩
    · rw [List.getElem?_append_right (by omega)] at h1
      rw [List.getElem?_append_right (by rw [← h.len]; omega)] at h2
      have e1 : j - vs.length = 0 := by
        have := (List.getElem?_eq_some_iff.1 h1).1
        simp at this; omega
      rw [← h.len, e1] at h2
      rw [e1] at h1
      cases h1; cases h2
      exact ⟨h.p.grh hg fun b hb => h.p.ne h.ps (by decide) hb, h.nil, no⟩

theorem flat_get : ∀ (ps : List PP) (i : Nat) (p : PP), ps[i]? = some p → ∀ j, j < 4 → (ps.flatMap cellsP)[i * 4 + j]? = (cellsP p)[j]?
  | [], i, p, h, j, hj => by simp at h
  | q :: ps, 0, p, h, j, hj => by
    simp at h; subst h
    rw [List.flatMap_cons, List.getElem?_append_left (by simp [cellsP]; omega)]; simp
  | q :: ps, i + 1, p, h, j, hj => by
    rw [List.flatMap_cons, List.getElem?_append_right (by simp [cellsP]; omega)]
    rw [show (i + 1) * 4 + j - (cellsP q).length = i * 4 + j by simp [cellsP]; omega]
    exact flat_get ps i p (by simpa using h) j hj
theorem RowQ.pairs {base k n cap : Nat} {ps : List PP} (h : RowQ Plain1 w base 50 4 (.slice (some ⟨k, 0, none⟩) n cap) ps.length (ps.flatMap cellsP)) : PairsAt w k 0 ps ∧ ∃ c, w.heap[k]? = some (.cells c 50 (0, 0)) ∧ ∀ x ∈ c, Plain1 x := by
  rcases h.2 with ⟨h, _⟩ | ⟨g, cap, cur, h1, h2, h3, h4, h5, h6, h7, h8⟩
  · cases h
  · cases h1
    refine ⟨fun i p hp => ?_, cur, h3, h8⟩
    have hc : ∀ j, j < 4 → w.cell? ⟨k, 0 + i * 4 + j, none⟩ = (cellsP p)[j]? := by
      intro j hj
      have hf := flat_get ps i p hp j hj
      have hlt : i < ps.length := (List.getElem?_eq_some_iff.1 hp).1
      rw [← h7, List.getElem?_take, if_pos (by omega)] at hf
      rw [← hf]
      simp [World.cell?, h3]
    exact ⟨by simpa [cellsP] using hc 0 (by omega), by simpa [cellsP] using hc 1 (by omega), by simpa [cellsP] using hc 2 (by omega), by simpa [cellsP] using hc 3 (by omega)⟩
/-- The parts, all made. -/
theorem P1.parts (h : P1 S O w0 ss xb yb lv psv pv i j vs pss [] R w) (hpos : 0 < vs.length) (h16 : vs.length ≤ 16) (hss : ∀ s ∈ ss, s.size ≤ 64) (hi : i ≤ 3000) : ∃ Pb cap, psv = .slice (some ⟨Pb, 0, none⟩) vs.length cap ∧ R Pb Pb ∧ PartsAt (fun b => R b b ∧ w0.heap.size ≤ b ∧ b ≠ xb ∧ b ≠ yb) w Pb 0 vs pss := by
  rcases h.ps.2 with ⟨_, h0⟩ | ⟨g, cap, cur, h1, h2, h3, h4, h5, h6, h7, h8⟩
  · omega
  have hsum : pss.flatten = (prs ss).take i := by simpa using h.sum
  have hpb : R g g := vr_slice_block h.known.diag (h1 ▸ h.vps)
  have hcell : ∀ (i : Nat) v, vs[i]? = some v → w.cell? ⟨g, 0 + i, none⟩ = some v := by
    intro i v hv
    have hlt : i < vs.length := (List.getElem?_eq_some_iff.1 hv).1
    rw [← h7, List.getElem?_take, if_pos (by omega)] at hv
    rw [Array.getElem?_toList] at hv
    simp [World.cell?, h3, hv]
  have hne : ∀ b c e, w.heap[b]? = some (.cells c e (0, 0)) → e ≠ 98 → b ≠ xb ∧ b ≠ yb := fun b c e hb he => ⟨fun e' => by
    obtain ⟨c2, h2⟩ := index_type h.x
    rw [e'] at hb; rw [hb] at h2; cases h2; exact he rfl, fun e' => by
    obtain ⟨c2, h2⟩ := index_type h.y
    rw [e'] at hb; rw [hb] at h2; cases h2; exact he rfl⟩
  refine ⟨g, cap, h1, hpb, ⟨h16, h.len.symm⟩, fun ps hps => ⟨?_, fun q hq => ?_⟩, ⟨hpb, h2, hne g _ _ h3 (by decide)⟩, hcell, fun i v ps hv hp => ?_⟩
  · have : ps.length ≤ pss.flatten.length := List.Sublist.length_le (List.sublist_flatten_of_mem hps)
    rw [hsum, List.length_take] at this
    omega
  · have : q ∈ pss.flatten := List.mem_flatten.2 ⟨ps, hps, hq⟩
    rw [hsum] at this
    exact prs_keys hss q (List.mem_of_mem_take this)
  · obtain ⟨d1, d2, d3⟩ := h.done i v ps hv hp
    by_cases he : ps = []
    · exact .inl ⟨he, d2 he⟩
    · have hl : 0 < ps.length := List.length_pos_iff.2 he
      rcases d1.2 with ⟨_, h0⟩ | ⟨k, cp, cr, rfl, q2, q3, q4⟩
      · omega
      obtain ⟨c1, c, c2, c3⟩ := d1.pairs
      obtain ⟨v', e1, e2⟩ := wr_cell h.known.wr hpb (hcell i _ hv)
      rw [hcell i _ hv] at e1
      cases e1
      exact .inr ⟨k, 0, cp, c, 50, (0, 0), ⟨vr_slice_block h.known.diag e2, q2, hne k _ _ c2 (by decide)⟩, rfl, hl, c2, c1, c3⟩
end
end Go.Proofs.Ytcgjppacnhmjlaa.Sim
end
