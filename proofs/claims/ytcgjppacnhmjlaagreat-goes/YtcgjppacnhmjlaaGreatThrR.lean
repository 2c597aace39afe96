/- through: what holds while an index is gone through. through: what a round of the range holds. -/
import Derived.Test.YtcgjppacnhmjlaaGreatRefV
import Derived.Test.YtcgjppacnhmjlaaGreatTwinI
set_option linter.unusedVariables false
set_option linter.unusedSimpArgs false
namespace Go.Proofs.YtcgjppacnhmjlaaGreat

section
open Go.RowKit Go.Shelf

section
variable {ρ ρ1 : Nat → Nat} {w A B : World} {W : Nat} {most : Int} {av : Value} {ts : TS} {R : Nat → Prop}
theorem ownsRow_turn {base : Nat} {e : TypeId} {size n : Nat} {v : Value} {xs : List Value} (h : A.ownsRow base e size v n xs) (ht : Turned A B) : B.ownsRow base e size v n xs := by
  obtain ⟨h0, h1 | ⟨g', cap', cur, h1, h2, h3, h4⟩⟩ := h
  · exact ⟨h0, .inl h1⟩
  · exact ⟨h0, .inr ⟨g', cap', cur, h1, h2, (ht.block ⟨_, h3, rfl⟩).trans h3, h4⟩⟩
theorem RefAt.turn {r : Nat} {l : List KV} (h : RefAt A r av l) (ht : Turned A B) : RefAt B r av l :=
  ⟨(ht.block ⟨_, h.blk, rfl⟩).trans h.blk, ownsRow_turn h.row ht, h.out, h.srt, h.short, h.few⟩
theorem Twin.turn {i x r : Nat} {l : List KV} (h : Twin ρ i A x r l) (ht : Turned A B) : Twin ρ i B x r l := by
  obtain ⟨av, h1, h2⟩ := h.ref
  exact ⟨h.ix.turn ht, h.px, h.pr, av, h1.turn ht, h2⟩
theorem Wd.turn (h : Wd ρ A W most av ts) (ht : Turned A B) : Wd ρ B W most av ts :=
  ⟨(ht.block ⟨_, h.blk, rfl⟩).trans h.blk, h.pW, ownsRow_turn h.row ht, h.pg, fun i t e => (h.tw i t e).turn ht, fun k hk => h.fresh k (Nat.le_trans ht.size hk), h.few⟩
theorem Moved.turn (h : Moved R ρ w ρ1 A) {row : Option Nat} (hg : A.grownBy B row) (hr : ∀ r, row = some r → w.heap.size ≤ r) : Moved R ρ w ρ1 B :=
  ⟨hg.os.trans h.os, hg.tape.trans h.tape, hg.output.trans h.output, Nat.le_trans h.size hg.size, h.agree, fun k hk => h.fresh k (Nat.le_trans hg.size hk),
    fun k hk hn => (hg.block k (Nat.lt_of_lt_of_le hk h.size) (fun e => by have := hr k e.symm; omega)).trans (h.block k hk hn),
    fun k o hk ho => (hg.block k (Nat.lt_of_lt_of_le (idx_lt hk) h.size) (fun e => by have := hr k e.symm; have := idx_lt hk; omega)).trans (h.oth k o hk ho)⟩
/-- What turns blocks of other labels alone. -/
theorem Wd.moved (h : Wd ρ A W most av ts) (hm : Moved R ρ A ρ1 B) (h0 : ¬ R 0) (hR : ∀ c, 0 < c → c < 150 → ¬ R c) : Wd ρ1 B W most av ts := by
  refine ⟨(hm.block W (idx_lt h.blk) (by rw [h.pW]; exact hR _ (by omega) (by omega))).trans h.blk, (hm.agree W (idx_lt h.blk)).trans h.pW, ownsRow_on h.row fun g e => hm.block g (h.row.lt g e).2 (by rw [h.pg g e]; exact hR _ (by omega) (by omega)), fun g e => (hm.agree g (h.row.lt g e).2).trans (h.pg g e), fun i t e => ?_, hm.fresh, h.few⟩
  exact (h.tw i t e).moved hm h0 fun c hc => hR c (part_small (h.lt e).2 hc).1 (by have := (part_small (h.lt e).2 hc).2; omega)
end

/-- Blocks without a label that lie as they lay. -/
def Kp0 (ρ : Nat → Nat) (w : World) (Bx : List (Nat × Obj)) : Prop := ∀ e ∈ Bx, ρ e.1 = 0 ∧ w.heap[e.1]? = some e.2
/-- Under way, begun in wr with the labels ρ. -/
structure Tc (ρ : Nat → Nat) (wr : World) (W : Nat) (most : Int) (av : Value) (ps : List (Nat × Nat)) (Bx : List (Nat × Obj)) (ρ1 : Nat → Nat) (w1 : World) : Prop where
  mv : Moved NZ ρ wr ρ1 w1
  wd : ∃ ts, Wd ρ1 w1 W most av ts ∧ ts.map pp = ps
  st : Kp0 ρ1 w1 Bx
section
variable {ρ ρ1 ρ2 : Nat → Nat} {wr w1 w2 : World} {W : Nat} {most : Int} {av : Value} {ps : List (Nat × Nat)} {Bx : List (Nat × Obj)}
theorem Tc.fresh (h : Tc ρ wr W most av ps Bx ρ1 w1) : ∀ k, w1.heap.size ≤ k → ρ1 k = 0 := h.mv.fresh
theorem Tc.on (h : Tc ρ wr W most av ps Bx ρ1 w1) (hb : Below w1.heap.size w1 w2) : Tc ρ wr W most av ps Bx ρ1 w2 := by
  obtain ⟨ts, h1, h2⟩ := h.wd
  exact ⟨h.mv.trans (Moved.of_below h.fresh hb), ⟨ts, h1.on hb, h2⟩, fun e he => ⟨(h.st e he).1, (hb.block _ (idx_lt (h.st e he).2)).trans (h.st e he).2⟩⟩
theorem Tc.add (h : Tc ρ wr W most av ps Bx ρ1 w1) (hb : Below w1.heap.size w1 w2) {k : Nat} {ob : Obj} (hk : w1.heap.size ≤ k) (hk2 : w2.heap[k]? = some ob) : Tc ρ wr W most av ps ((k, ob) :: Bx) ρ1 w2 := by
  have h' := h.on hb
  refine ⟨h'.mv, h'.wd, fun e he => ?_⟩
  rcases List.mem_cons.mp he with rfl | he
  · exact ⟨h.fresh k hk, hk2⟩
  · exact h'.st e he
theorem Tc.after (h : Tc ρ wr W most av ps Bx ρ1 w1) : After ρ wr W most av ps w1 := by
  obtain ⟨ts, h1, h2⟩ := h.wd
  exact ⟨ρ1, ts, h.mv, h1, h2⟩
theorem Moved.lab {R : Nat → Prop} (h : Moved R ρ1 w1 ρ2 w2) (h0 : ¬ R 0) : Lab ρ1 w1 ρ2 w2 := ⟨h.size, h.agree, fun k hk hk0 => h.block k hk (by rw [hk0]; exact h0)⟩
theorem nz0 : ¬ NZ 0 := fun h => Nat.lt_irrefl _ h.1
theorem Tc.plain (h : Tc ρ wr W most av ps Bx ρ1 w1) (ha : After ρ1 w1 W most av ps w2) : ∃ ρ2, Tc ρ wr W most av ps Bx ρ2 w2 ∧ Moved NZ ρ1 w1 ρ2 w2 := by
  obtain ⟨ρ2, ts, h1, h2, h3⟩ := ha
  refine ⟨ρ2, ⟨h.mv.trans h1, ⟨ts, h2, h3⟩, fun e he => ?_⟩, h1⟩
  have hl := idx_lt (h.st e he).2
  exact ⟨(h1.agree _ hl).trans (h.st e he).1, (h1.block _ hl (by rw [(h.st e he).1]; exact nz0)).trans (h.st e he).2⟩
theorem Tc.turn (h : Tc ρ wr W most av ps Bx ρ1 w1) {row : Option Nat} (hg : w1.grownBy w2 row) (hr : ∀ r, row = some r → wr.heap.size ≤ r ∧ ∃ o : Obj, w1.heap[r]? = some o ∧ o.isCells = false) (hB : ∀ e ∈ Bx, e.2.isCells = true) : Tc ρ wr W most av ps Bx ρ1 w2 := by
  have ht : Turned w1 w2 := ⟨row, hg, fun r e => (hr r e).2⟩
  obtain ⟨ts, h1, h2⟩ := h.wd
  exact ⟨h.mv.turn hg (fun r e => (hr r e).1), ⟨ts, h1.turn ht, h2⟩, fun e he => ⟨(h.st e he).1, (ht.block ⟨_, (h.st e he).2, hB e he⟩).trans (h.st e he).2⟩⟩
/-- Two new blocks get labels. -/
def mark2 (ρ : Nat → Nat) (a b : Nat) : Nat → Nat := fun k => if k = a ∨ k = b then 200 else ρ k
theorem Tc.mark (h : Tc ρ wr W most av ps Bx ρ1 w1) (hb : Below w1.heap.size w1 w2) {a b : Nat} (ha : w1.heap.size ≤ a) (hb2 : w1.heap.size ≤ b) (ha2 : a < w2.heap.size) (hb3 : b < w2.heap.size) {Bx' : List (Nat × Obj)} (hk : ∀ e ∈ Bx', e.1 ≠ a ∧ e.1 ≠ b ∧ ρ1 e.1 = 0 ∧ w2.heap[e.1]? = some e.2) : Tc ρ wr W most av ps Bx' (mark2 ρ1 a b) w2 := by
  have hm : Moved (fun _ => False) ρ1 w1 (mark2 ρ1 a b) w2 := ⟨hb.os, hb.tape, hb.output, hb.size, fun k hk => if_neg (by omega), fun k hk => by
    unfold mark2
    rw [if_neg (by omega)]; exact h.fresh k (Nat.le_trans hb.size hk), fun k hk _ => hb.block k hk, fun k o hk _ => (hb.block k (idx_lt hk)).trans hk⟩
  obtain ⟨ts, h1, h2⟩ := h.wd
  exact ⟨h.mv.trans (hm.mono fun _ h => h.elim), ⟨ts, h1.moved hm (fun h => h) (fun _ _ _ h => h), h2⟩, fun e he => ⟨(if_neg (by have := hk e he; omega)).trans (hk e he).2.2.1, (hk e he).2.2.2⟩⟩
/-- A store into a block with such a label. -/
theorem Tc.set (h : Tc ρ wr W most av ps Bx ρ1 w1) {a : Nat} (ha : ρ1 a = 200) (hlo : wr.heap.size ≤ a) (hc : ∀ o, w1.heap[a]? = some o → o.isCells = true) (v : Value) : Tc ρ wr W most av ps Bx ρ1 (w1.setCell ⟨a, 0, none⟩ v) ∧ Lab ρ1 w1 ρ1 (w1.setCell ⟨a, 0, none⟩ v) := by
  have hs : (w1.setCell ⟨a, 0, none⟩ v).heap.size = w1.heap.size := by simp [World.setCell]
  have ho : ∀ k, k ≠ a → (w1.setCell ⟨a, 0, none⟩ v).heap[k]? = w1.heap[k]? := fun k hk => Below.heap_setCell _ _ _ _ hk
  have hm : Moved (fun c => c = 200) ρ1 w1 ρ1 (w1.setCell ⟨a, 0, none⟩ v) := ⟨rfl, rfl, rfl, by omega, fun _ _ => rfl, fun k hk => h.fresh k (by omega), fun k _ hk => ho k (fun e => hk (by rw [e]; exact ha)), fun k o hk h1 => (ho k (fun e => by subst e; rw [hc o hk] at h1; cases h1)).trans hk⟩
  obtain ⟨ts, h1, h2⟩ := h.wd
  refine ⟨⟨⟨h.mv.os, h.mv.tape, h.mv.output, by have := h.mv.size; omega, h.mv.agree, fun k hk => h.fresh k (by omega), fun k hk hn => (ho k (by omega)).trans (h.mv.block k hk hn), fun k o hk h1 => hm.oth k o (h.mv.oth k o hk h1) h1⟩, ⟨ts, h1.moved hm (by omega) (fun c _ _ => by omega), h2⟩, fun e he => ⟨(h.st e he).1, (ho _ (fun e1 => by have := (h.st e he).1; rw [e1, ha] at this; cases this)).trans (h.st e he).2⟩⟩, hm.lab (by omega)⟩
theorem Tc.twin (h : Tc ρ wr W most av ps Bx ρ1 w1) {i x r : Nat} (hi : ps[i]? = some (x, r)) : ∃ l, Twin ρ1 i w1 x r l := by
  obtain ⟨ts, h1, rfl⟩ := h.wd
  rw [List.getElem?_map, Option.map_eq_some_iff] at hi
  obtain ⟨t, ht, e⟩ := hi
  unfold pp at e
  cases e
  exact ⟨t.2.2, h1.tw i t ht⟩
theorem Moved.keeps {R : Nat → Prop} (h : Moved R ρ1 w1 ρ2 w2) : KeepsOthers w1 w2 := ⟨h.size, h.oth⟩
end
end

section
open Go.RowKit Go.Shelf

def tnB (n : Nat) : Obj := .cells #[.int .i64 n] 3
def okB (b : Bool) : Obj := .cells #[.bool b] 4
/-- The records of loops that are over. -/
def DefOk (w : World) (Dl : List Nat) (w1 : World) : Prop := (∀ D ∈ Dl, w.heap.size ≤ D ∧ w1.heap[D]? = some (.deferred (some []))) ∧ Dl.Nodup
/-- The pairs that are wanted, in memory. -/
def RowOk (w : World) (ao : Option Addr) (R : List KV) (w2 : World) : Prop := R = [] ∨ ∃ g ob, ao = some ⟨g, 0, none⟩ ∧ w.heap.size ≤ g ∧ w2.heap[g]? = some ob ∧ ob.isCells = true ∧ ∀ w' : World, w'.heap[g]? = some ob → PairsAt w' g R
def RowIn (Bx : List (Nat × Obj)) (ao : Option Addr) (R : List KV) : Prop := R = [] ∨ ∃ g ob, ao = some ⟨g, 0, none⟩ ∧ (g, ob) ∈ Bx ∧ ∀ w' : World, w'.heap[g]? = some ob → PairsAt w' g R
theorem DefOk.on {w w1 w2 : World} {Dl : List Nat} (h : DefOk w Dl w1) (hb : Below w1.heap.size w1 w2) : DefOk w Dl w2 := ⟨fun D hD => ⟨(h.1 D hD).1, (hb.block D (idx_lt (h.1 D hD).2)).trans (h.1 D hD).2⟩, h.2⟩
theorem DefOk.keeps {w w1 w2 : World} {Dl : List Nat} (h : DefOk w Dl w1) (hk : KeepsOthers w1 w2) : DefOk w Dl w2 := ⟨fun D hD => ⟨(h.1 D hD).1, hk.same D _ (h.1 D hD).2 rfl⟩, h.2⟩
theorem four_boxes {w2 w7 : World} {A B C D : Obj} (h : (((w2.alloc A).alloc B).alloc C).alloc D = w7) : Below w2.heap.size w2 w7 ∧ w7.heap[w2.heap.size]? = some A ∧ w7.heap[w2.heap.size + 1]? = some B ∧ w7.heap[w2.heap.size + 1 + 1]? = some C ∧ w7.heap[w2.heap.size + 1 + 1 + 1]? = some D ∧ w7.heap.size = w2.heap.size + 4 := by
  subst h
  have s1 : (w2.alloc A).heap.size = w2.heap.size + 1 := by simp
  have s2 : ((w2.alloc A).alloc B).heap.size = w2.heap.size + 1 + 1 := by simp
  have s3 : (((w2.alloc A).alloc B).alloc C).heap.size = w2.heap.size + 1 + 1 + 1 := by simp
  have b1 := below_alloc ((w2.alloc A).alloc B) C
  have b2 := below_alloc (((w2.alloc A).alloc B).alloc C) D
  have e0 := old_new w2 A B
  have e1 := new_new w2 A B
  have e2 := heap_alloc_new ((w2.alloc A).alloc B) C
  have e3 := heap_alloc_new (((w2.alloc A).alloc B).alloc C) D
  rw [s2] at e2
  rw [s3] at e3
  refine ⟨((((Below.refl _ _).alloc (Nat.le_refl _) _).alloc (by omega) _).alloc (by omega) _).alloc (by omega) _, ?_, ?_, ?_, e3, by simp⟩
  · exact (b2.block _ (by omega)).trans ((b1.block _ (by omega)).trans e0)
  · exact (b2.block _ (by omega)).trans ((b1.block _ (by omega)).trans e1)
  · exact (b2.block _ (by omega)).trans e2
section
variable {ρ ρ1 ρ2 ρ3 : Nat → Nat} {w wr w1 w2 w7 A B : World} {W : Nat} {most : Int} {av : Value} {ps : List (Nat × Nat)} {Bx Bx2 : List (Nat × Obj)} {Dl : List Nat} {b13 b14 : Nat}
theorem Tc.sub (h : Tc ρ w W most av ps Bx2 ρ1 w1) (hs : ∀ e ∈ Bx, e ∈ Bx2) : Tc ρ w W most av ps Bx ρ1 w1 := ⟨h.mv, h.wd, fun e he => h.st e (hs e he)⟩
theorem Tc.mark' (h : Tc ρ wr W most av ps Bx ρ1 w1) (hb : Below w1.heap.size w1 w2) {a b : Nat} (ha : w1.heap.size ≤ a) (hb2 : w1.heap.size ≤ b) (ha2 : a < w2.heap.size) (hb3 : b < w2.heap.size) : Moved (fun _ => False) ρ1 w1 (mark2 ρ1 a b) w2 :=
  ⟨hb.os, hb.tape, hb.output, hb.size, fun k hk => if_neg (by omega), fun k hk => by
    unfold mark2
    rw [if_neg (by omega)]; exact h.fresh k (Nat.le_trans hb.size hk), fun k hk _ => hb.block k hk, fun k o hk _ => (hb.block k (idx_lt hk)).trans hk⟩
/-- Where the range begins. -/
theorem begin_range {b10 tn i x r : Nat} {l R : List KV} {ao : Option Addr} {oA oB : Obj} (h : Tc ρ w W most av ps ((b10, tnB tn) :: Bx) ρ1 w1) (hb : Below w1.heap.size w1 w2) (hrow : RowOk w1 ao R w2) (htw : Twin ρ1 i w1 x r l) (hD : DefOk w Dl w1) (hc : ∀ e ∈ Bx, e.2.isCells = true) (hA : oA.isCells = true) (hB : oB.isCells = true)
    (h7 : (((w2.alloc oA).alloc oB).alloc (tnB 0)).alloc (okB true) = w7) :
    ∃ Bx2 ρ7, Tc ρ w W most av ps Bx2 ρ7 w7 ∧ ρ7 (w2.heap.size + 1 + 1) = 200 ∧ ρ7 (w2.heap.size + 1 + 1 + 1) = 200 ∧ IndexAt (fun k => ρ7 k = 0) w7 x l ∧ (∀ e ∈ Bx, e ∈ Bx2) ∧ (b10, tnB tn) ∈ Bx2 ∧ (w2.heap.size, oA) ∈ Bx2 ∧ (w2.heap.size + 1, oB) ∈ Bx2 ∧ (∀ e ∈ Bx2, e.2.isCells = true) ∧ RowIn Bx2 ao R ∧ DefOk w Dl w7 ∧ (∀ D ∈ Dl, D < w7.heap.size) ∧ (∀ e ∈ Bx2, e.1 < w2.heap.size + 2) ∧ w.heap.size ≤ w2.heap.size := by
  obtain ⟨f0, f1, f2, f3, f4, f5⟩ := four_boxes h7
  have hb7 : Below w1.heap.size w1 w7 := hb.trans (f0.mono hb.size)
  have hs := hb.size
  obtain ⟨rl, hrl, hrl2⟩ : ∃ rl : List (Nat × Obj), (∀ e ∈ rl, w1.heap.size ≤ e.1 ∧ e.1 < w2.heap.size ∧ w7.heap[e.1]? = some e.2 ∧ e.2.isCells = true) ∧ RowIn rl ao R := by
    rcases hrow with h0 | ⟨g, ob, g1, g2, g3, g4, g5⟩
    · exact ⟨[], fun e he => (by cases he), .inl h0⟩
    · refine ⟨[(g, ob)], fun e he => ?_, .inr ⟨g, ob, g1, by simp, g5⟩⟩
      obtain rfl := List.mem_singleton.mp he
      exact ⟨g2, idx_lt g3, (f0.block g (idx_lt g3)).trans g3, g4⟩
  have hm := h.mark' hb7 (a := w2.heap.size + 1 + 1) (b := w2.heap.size + 1 + 1 + 1) (by omega) (by omega) (by omega) (by omega)
  have hk : ∀ e ∈ (w2.heap.size, oA) :: (w2.heap.size + 1, oB) :: (b10, tnB tn) :: (rl ++ Bx), (e.1 ≠ w2.heap.size + 1 + 1 ∧ e.1 ≠ w2.heap.size + 1 + 1 + 1 ∧ ρ1 e.1 = 0 ∧ w7.heap[e.1]? = some e.2) ∧ e.2.isCells = true ∧ e.1 < w2.heap.size + 2 := fun e he => by
    simp only [List.mem_cons, List.mem_append] at he
    rcases he with rfl | rfl | rfl | he | he
    · exact ⟨⟨by dsimp only; omega, by dsimp only; omega, h.fresh _ hs, f1⟩, hA, by dsimp only; omega⟩
    · exact ⟨⟨by dsimp only; omega, by dsimp only; omega, h.fresh _ (by dsimp only; omega), f2⟩, hB, by dsimp only; omega⟩
    · have := h.st _ List.mem_cons_self
      have hl := idx_lt this.2
      exact ⟨⟨by dsimp only at hl ⊢; omega, by dsimp only at hl ⊢; omega, this.1, (hb7.block _ hl).trans this.2⟩, rfl, by dsimp only at hl ⊢; omega⟩
    · obtain ⟨g1, g2, g3, g4⟩ := hrl e he
      exact ⟨⟨by omega, by omega, h.fresh _ g1, g3⟩, g4, by omega⟩
    · have := h.st e (List.mem_cons_of_mem _ he)
      have hl := idx_lt this.2
      exact ⟨⟨by omega, by omega, this.1, (hb7.block _ hl).trans this.2⟩, hc e he, by omega⟩
  refine ⟨(w2.heap.size, oA) :: (w2.heap.size + 1, oB) :: (b10, tnB tn) :: (rl ++ Bx), mark2 ρ1 (w2.heap.size + 1 + 1) (w2.heap.size + 1 + 1 + 1), h.mark hb7 (by omega) (by omega) (by omega) (by omega) (fun e he => (hk e he).1), if_pos (.inl rfl), if_pos (.inr rfl), (htw.moved hm (fun h => h) (fun _ _ h => h)).ix, fun e he => by simp [he], by simp, by simp, by simp, fun e he => (hk e he).2.1, ?_, hD.on hb7, fun D hD2 => Nat.lt_of_lt_of_le (idx_lt (hD.1 D hD2).2) hb7.size, fun e he => (hk e he).2.2, by have := h.mv.size; omega⟩
  rcases hrl2 with h0 | ⟨g, ob, g1, g2, g3⟩
  · exact .inl h0
  · exact .inr ⟨g, ob, g1, by simp [g2], g3⟩

/-- Within a round: how many pairs have come, and whether all was well. -/
structure RS (ρ : Nat → Nat) (w : World) (W : Nat) (most : Int) (av : Value) (ps : List (Nat × Nat)) (Bx2 : List (Nat × Obj)) (Dl : List Nat) (b13 b14 : Nat) (ρ2 : Nat → Nat) (A : World) (at' : Nat) (ok : Bool) : Prop where
  tc : Tc ρ w W most av ps Bx2 ρ2 A
  l13 : ρ2 b13 = 200
  l14 : ρ2 b14 = 200
  df : DefOk w Dl A
  a13 : A.heap[b13]? = some (tnB at')
  a14 : A.heap[b14]? = some (okB ok)
theorem RS.c13 {at' : Nat} {ok : Bool} (h : RS ρ w W most av ps Bx2 Dl b13 b14 ρ2 A at' ok) : A.cell? ⟨b13, 0, none⟩ = some (.int .i64 at') ∧ A.frozen? ⟨b13, 0, none⟩ = false := by simp [World.cell?, World.frozen?, h.a13, tnB]
theorem RS.c14 {at' : Nat} {ok : Bool} (h : RS ρ w W most av ps Bx2 Dl b13 b14 ρ2 A at' ok) : A.cell? ⟨b14, 0, none⟩ = some (.bool ok) ∧ A.frozen? ⟨b14, 0, none⟩ = false := by simp [World.cell?, World.frozen?, h.a14, okB]
theorem RS.setOk {at' : Nat} {ok : Bool} (h : RS ρ w W most av ps Bx2 Dl b13 b14 ρ2 A at' ok) (hne : b13 ≠ b14) (hlo : w.heap.size ≤ b14) (ok' : Bool) : RS ρ w W most av ps Bx2 Dl b13 b14 ρ2 (A.setCell ⟨b14, 0, none⟩ (.bool ok')) at' ok' ∧ Lab ρ2 A ρ2 (A.setCell ⟨b14, 0, none⟩ (.bool ok')) ∧ KeepsOthers A (A.setCell ⟨b14, 0, none⟩ (.bool ok')) := by
  obtain ⟨h1, h2⟩ := h.tc.set h.l14 hlo (fun o ho => by rw [h.a14] at ho; cases ho; rfl) (.bool ok')
  have hk := KeepsOthers.setCell A ⟨b14, 0, none⟩ (.bool ok')
  refine ⟨⟨h1, h.l13, h.l14, h.df.keeps hk, (Below.heap_setCell _ _ _ _ hne).trans h.a13, ?_⟩, h2, hk⟩
  have := Lib.heap_setCell_same (i := 0) h.a14 (.bool ok')
  rw [this]; rfl
theorem RS.setAt {at' : Nat} {ok : Bool} (h : RS ρ w W most av ps Bx2 Dl b13 b14 ρ2 A at' ok) (hne : b13 ≠ b14) (hlo : w.heap.size ≤ b13) (at2 : Nat) : RS ρ w W most av ps Bx2 Dl b13 b14 ρ2 (A.setCell ⟨b13, 0, none⟩ (.int .i64 at2)) at2 ok ∧ Lab ρ2 A ρ2 (A.setCell ⟨b13, 0, none⟩ (.int .i64 at2)) ∧ KeepsOthers A (A.setCell ⟨b13, 0, none⟩ (.int .i64 at2)) := by
  obtain ⟨h1, h2⟩ := h.tc.set h.l13 hlo (fun o ho => by rw [h.a13] at ho; cases ho; rfl) (.int .i64 at2)
  have hk := KeepsOthers.setCell A ⟨b13, 0, none⟩ (.int .i64 at2)
  refine ⟨⟨h1, h.l13, h.l14, h.df.keeps hk, ?_, (Below.heap_setCell _ _ _ _ hne.symm).trans h.a14⟩, h2, hk⟩
  have := Lib.heap_setCell_same (i := 0) h.a13 (.int .i64 at2)
  rw [this]; rfl
theorem RS.plain {at' : Nat} {ok : Bool} (h : RS ρ w W most av ps Bx2 Dl b13 b14 ρ2 A at' ok) (ht : Tc ρ w W most av ps Bx2 ρ3 B) (hm : Moved NZ ρ2 A ρ3 B) : RS ρ w W most av ps Bx2 Dl b13 b14 ρ3 B at' ok := by
  have n200 : ¬ NZ 200 := fun h => by have := h.2; omega
  exact ⟨ht, (hm.agree _ (idx_lt h.a13)).trans h.l13, (hm.agree _ (idx_lt h.a14)).trans h.l14, h.df.keeps hm.keeps, (hm.block _ (idx_lt h.a13) (by rw [h.l13]; exact n200)).trans h.a13, (hm.block _ (idx_lt h.a14) (by rw [h.l14]; exact n200)).trans h.a14⟩
theorem RS.on {at' : Nat} {ok : Bool} (h : RS ρ w W most av ps Bx2 Dl b13 b14 ρ2 A at' ok) (hb : Below A.heap.size A B) : RS ρ w W most av ps Bx2 Dl b13 b14 ρ2 B at' ok :=
  ⟨h.tc.on hb, h.l13, h.l14, h.df.on hb, (hb.block _ (idx_lt h.a13)).trans h.a13, (hb.block _ (idx_lt h.a14)).trans h.a14⟩
theorem RS.turn {at' : Nat} {ok : Bool} (h : RS ρ w W most av ps Bx2 Dl b13 b14 ρ2 A at' ok) {row : Option Nat} {n : Nat} (hg : A.grownBy B row) (hr : ∀ r, row = some r → n ≤ r ∧ ∃ o : Obj, A.heap[r]? = some o ∧ o.isCells = false) (hn : w.heap.size ≤ n) (hB : ∀ e ∈ Bx2, e.2.isCells = true) (hD : ∀ D ∈ Dl, D < n) : RS ρ w W most av ps Bx2 Dl b13 b14 ρ2 B at' ok := by
  have ht : Turned A B := ⟨row, hg, fun r e => (hr r e).2⟩
  refine ⟨h.tc.turn hg (fun r e => ⟨Nat.le_trans hn (hr r e).1, (hr r e).2⟩) hB, h.l13, h.l14, ⟨fun D hD2 => ⟨(h.df.1 D hD2).1, (hg.block D (idx_lt (h.df.1 D hD2).2) (fun e => ?_)).trans (h.df.1 D hD2).2⟩, h.df.2⟩, (ht.block ⟨_, h.a13, rfl⟩).trans h.a13, (ht.block ⟨_, h.a14, rfl⟩).trans h.a14⟩
  have := (hr D e.symm).1
  have := hD D hD2
  omega
end
end

end Go.Proofs.YtcgjppacnhmjlaaGreat
