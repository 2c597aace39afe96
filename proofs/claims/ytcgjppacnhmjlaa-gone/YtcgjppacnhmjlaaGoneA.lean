/- Gone: what the index holds while it is gone through and emptied. -/
import Derived.Test.YtcgjppacnhmjlaaWalkF
import Derived.Test.YtcgjppacnhmjlaaTwo
set_option linter.unusedVariables false
set_option linter.unusedSimpArgs false
namespace Go.Proofs.Ytcgjppacnhmjlaa
open Go.RowKit Go.Shelf

def bang (s : ByteArray) : ByteArray := s ++ ⟨#[33]⟩
def pG (L : List ByteArray) (j : Nat) : List KV := puts ((L.take j).map fun k => (k, bang k)) []
theorem pG_succ (L : List ByteArray) (j : Nat) (s : ByteArray) (h : L[j]? = some s) : pG L (j + 1) = ins (kof s) (bang s) (pG L j) := by
  unfold pG; rw [take_snoc' L j s h, List.map_append, List.map_cons, List.map_nil, puts_snoc]
theorem srt_pG (L : List ByteArray) (j : Nat) : Srt (pG L j) := srt_puts List.Pairwise.nil
theorem len_pG (L : List ByteArray) (j : Nat) : (pG L j).length ≤ L.length := by
  have := len_puts (ps := (L.take j).map fun k => (k, bang k)) (l := []) List.Pairwise.nil
  unfold pG; simp at this ⊢; omega
theorem mem_pG (L : List ByteArray) (e : KV) : e ∈ pG L L.length ↔ ∃ k ∈ L, e = (kof k, bang k) := by
  unfold pG
  rw [List.take_of_length_le (Nat.le_refl _), mem_puts (f := bang)]
  simp
/-- Those keys taken away. -/
def dels (pre : List KV) (l : List KV) : List KV := pre.foldl (fun l e => del e.1 l) l
theorem dels_snoc (pre : List KV) (e : KV) (l : List KV) : dels (pre ++ [e]) l = del e.1 (dels pre l) := by simp [dels]
theorem srt_dels {pre l : List KV} (h : Srt l) : Srt (dels pre l) := by
  induction pre generalizing l with
  | nil => exact h
  | cons p pre ih => exact ih (srt_del h)
theorem mem_dels {pre l : List KV} {e : KV} : e ∈ dels pre l ↔ e ∈ l ∧ ∀ p ∈ pre, p.1 ≠ e.1 := by
  induction pre generalizing l with
  | nil => simp [dels]
  | cons p pre ih =>
    show e ∈ dels pre (del p.1 l) ↔ _
    rw [ih, mem_del]
    simp only [List.mem_cons, forall_eq_or_imp]
    constructor
    · rintro ⟨⟨h1, h2⟩, h3⟩; exact ⟨h1, fun h => h2 h.symm, h3⟩
    · rintro ⟨h1, h2, h3⟩; exact ⟨⟨h1, fun h => h2 h.symm⟩, h3⟩
theorem len_dels_le {pre l : List KV} : (dels pre l).length ≤ l.length := by
  induction pre generalizing l with
  | nil => exact Nat.le_refl _
  | cons p pre ih => exact Nat.le_trans (ih (l := del p.1 l)) (List.length_filter_le _ _)
/-- What is left behind the range. -/
theorem dels_rng {fr to : List UInt8} {l : List KV} (h : Srt l) : dels (rng fr to l) l = l.filter fun e => !inR fr to e.1 := by
  refine Srt.ext (srt_dels h) (List.Pairwise.filter _ h) fun e => ?_
  rw [mem_dels, List.mem_filter]
  constructor
  · rintro ⟨h1, h2⟩
    refine ⟨h1, ?_⟩
    cases h3 : inR fr to e.1 with
    | false => rfl
    | true => exact absurd rfl (h2 e (List.mem_filter.mpr ⟨h1, h3⟩))
  · rintro ⟨h1, h2⟩
    refine ⟨h1, fun p hp hpe => ?_⟩
    have := (List.mem_filter.mp hp).2
    rw [hpe] at this
    rw [this] at h2; cases h2
theorem len_rng {fr to : List UInt8} {l : List KV} (h : Srt l) : (dels (rng fr to l) l).length + (rng fr to l).length = l.length := by
  rw [dels_rng h]
  unfold rng
  clear h
  induction l with
  | nil => rfl
  | cons e l ih =>
    cases h3 : inR fr to e.1 <;> simp [h3] <;> omega
theorem lk_dels_rng {fr to : List UInt8} {l : List KV} (h : Srt l) {k : List UInt8} {v : ByteArray} (hk : (k, v) ∈ l) : (lk k (dels (rng fr to l) l)).isSome = !inR fr to k := by
  cases h3 : inR fr to k with
  | false =>
    rw [lk_some (srt_dels h) (v := v) (by rw [dels_rng h, List.mem_filter]; exact ⟨hk, by simp [h3]⟩)]
    rfl
  | true =>
    have : lk k (dels (rng fr to l) l) = none := lk_none fun e he e1 => by
      rw [dels_rng h, List.mem_filter, e1, h3] at he
      have := he.2
      cases this
    rw [this]; rfl

section
variable {R : List KV}
def lastOf (pre : List (Ran R)) : ByteArray := match pre.getLast? with | none => ⟨#[]⟩ | some e => ⟨e.1.1.toArray⟩
theorem lastOf_snoc (pre : List (Ran R)) (x : Ran R) : lastOf (pre ++ [x]) = ⟨x.1.1.toArray⟩ := by simp [lastOf]
def valsOf (pre : List (Ran R)) : List KV := pre.map (·.1)
theorem valsOf_snoc (pre : List (Ran R)) (x : Ran R) : valsOf (pre ++ [x]) = valsOf pre ++ [x.1] := by simp [valsOf]
theorem valsOf_all : valsOf R.attach = R := List.attach_map_subtype_val R
theorem good_vals {pre : List (Ran R)} {x : Ran R} (h : pre ++ [x] <+: R.attach) : valsOf pre ++ [x.1] <+: R := by
  have := h.map (fun e : Ran R => e.1)
  rw [List.attach_map_subtype_val] at this
  simpa [valsOf] using this
/-- What comes next is behind what came last. -/
theorem good_last {pre : List (Ran R)} {x : Ran R} (hs : Srt R) (h : pre ++ [x] <+: R.attach) (hp : pre ≠ []) : klt (lastOf pre).data.toList x.1.1 := by
  obtain ⟨r, hr⟩ := good_vals h
  rw [← hr] at hs
  have h1 := (List.pairwise_append.mp (List.pairwise_append.mp hs).1).2.2
  have hlast : pre.getLast? = some (pre.getLast hp) := List.getLast?_eq_some_getLast hp
  unfold lastOf
  rw [hlast]
  exact h1 (pre.getLast hp).1 (List.mem_map.mpr ⟨_, List.getLast_mem hp, rfl⟩) x.1 (by simp)
theorem good_there {pre : List (Ran R)} {x : Ran R} {l : List KV} (hl : Srt l) (hs : Srt R) (hR : ∀ e ∈ R, e ∈ l) (h : pre ++ [x] <+: R.attach) : lk x.1.1 (dels (valsOf pre) l) = some x.1.2 := by
  refine lk_some (srt_dels hl) (mem_dels.mpr ⟨hR _ x.2, fun p hp e => ?_⟩)
  obtain ⟨r, hr⟩ := good_vals h
  rw [← hr] at hs
  have h1 := (List.pairwise_append.mp (List.pairwise_append.mp hs).1).2.2 p hp x.1 (by simp)
  rw [e] at h1
  exact klt_irrefl _ h1
end

/-- The index, its keys' texts and the call's own boxes. -/
structure GS (w0 : World) (xb bx bf bt br : Nat) (fr to : ByteArray) (la : Option Addr) (L : List ByteArray) (S : Nat → Prop) (X : List KV) (wr : World) : Prop where
  ix : IndexAt S wr xb X
  row : RowS S wr la L
  cbx : wr.heap[bx]? = some (.cells #[.pointer (some ⟨xb, 0, none⟩)] 25 (0, 0))
  cbf : wr.heap[bf]? = some (.cells #[.string fr] 9 (0, 0))
  cbt : wr.heap[bt]? = some (.cells #[.string to] 9 (0, 0))
  cbr : wr.heap[br]? = some (.cells #[.bool false] 4 (0, 0))
  below : Below w0.heap.size w0 wr
  opn : Open S wr
  lo : w0.heap.size ≤ xb ∧ w0.heap.size ≤ br
  ne : bx ≠ xb ∧ bf ≠ xb ∧ bt ≠ xb ∧ br ≠ xb
section
variable {w0 wr w' : World} {xb bx bf bt br : Nat} {fr to : ByteArray} {la : Option Addr} {L : List ByteArray} {S : Nat → Prop} {X X' : List KV}
theorem GS.on (h : GS w0 xb bx bf bt br fr to la L S X wr) (hb : Below wr.heap.size wr w') : GS w0 xb bx bf bt br fr to la L S X w' :=
  ⟨h.ix.on hb, h.row.on hb, blk_later hb h.cbx, blk_later hb h.cbf, blk_later hb h.cbt, blk_later hb h.cbr, h.below.trans (hb.mono h.below.size), h.opn.later hb, h.lo, h.ne⟩
theorem but_blk {x b : Nat} {ob : Obj} (hb : But x wr w') (hne : b ≠ x) (h : wr.heap[b]? = some ob) : w'.heap[b]? = some ob := (hb.block b (idx_lt h) hne).trans h
theorem GS.but (h : GS w0 xb bx bf bt br fr to la L S X wr) (hx : IndexAt S w' xb X') (hb : But xb wr w') : GS w0 xb bx bf bt br fr to la L S X' w' :=
  ⟨hx, h.row.but hb hx.out, but_blk hb h.ne.1 h.cbx, but_blk hb h.ne.2.1 h.cbf, but_blk hb h.ne.2.2.1 h.cbt, but_blk hb h.ne.2.2.2 h.cbr, h.below.trans (hb.below h.lo.1 h.below.size), h.opn.but hb, h.lo, h.ne⟩
theorem GS.turn (h : GS w0 xb bx bf bt br fr to la L S X wr) {B : Nat} (hB : w0.heap.size ≤ B) {row : Option Nat} (hg : wr.grownBy w' row) (hr : ∀ r, row = some r → B ≤ r ∧ ∃ o : Obj, wr.heap[r]? = some o ∧ o.isCells = false) : GS w0 xb bx bf bt br fr to la L S X w' := by
  have ht : Turned wr w' := ⟨row, hg, fun r e => (hr r e).2⟩
  have blk : ∀ {b : Nat} {ob : Obj}, wr.heap[b]? = some ob → ob.isCells = true → w'.heap[b]? = some ob := fun h1 h2 => (ht.block ⟨_, h1, h2⟩).trans h1
  refine ⟨h.ix.turn ht, ?_, blk h.cbx rfl, blk h.cbf rfl, blk h.cbt rfl, blk h.cbr rfl, h.below.trans ⟨hg.os, hg.tape, hg.output, hg.size, fun k hk => hg.block k (by have := h.below.size; omega) (fun e => by have := (hr k e.symm).1; omega)⟩, fun k hk => h.opn k (Nat.le_trans hg.size hk), h.lo, h.ne⟩
  rcases h.row with h1 | ⟨k, h1, h2, h3, h4⟩
  · exact .inl h1
  · refine .inr ⟨k, h1, h2, Nat.lt_of_lt_of_le h3 hg.size, fun i s hs => ?_⟩
    have := h4 i s hs
    exact (World.cell?_of_block (w := wr) (a := ⟨k, i, none⟩) (ht.block (isC_of_cell this))).trans this
/-- A box of the call's own is written, none of the others, and not the index. -/
theorem GS.box (h : GS w0 xb bx bf bt br fr to la L S X wr) {b : Nat} (v : Value) (hS : ¬ S b) (hb : b ≠ xb ∧ b ≠ bx ∧ b ≠ bf ∧ b ≠ bt ∧ b ≠ br) (hlo : w0.heap.size ≤ b) : GS w0 xb bx bf bt br fr to la L S X (wr.setCell ⟨b, 0, none⟩ v) := by
  have far : ∀ {k : Nat} {ob : Obj}, k ≠ b → wr.heap[k]? = some ob → (wr.setCell ⟨b, 0, none⟩ v).heap[k]? = some ob := fun h1 h2 => (Below.heap_setCell _ _ _ _ h1).trans h2
  have hbut : But b wr (wr.setCell ⟨b, 0, none⟩ v) := But.set b wr v
  exact ⟨h.ix.but hbut hb.1.symm hS, h.row.but hbut hS, far hb.2.1.symm h.cbx, far hb.2.2.1.symm h.cbf, far hb.2.2.2.1.symm h.cbt, far hb.2.2.2.2.symm h.cbr, h.below.trans (hbut.below hlo h.below.size), h.opn.but hbut, h.lo, h.ne⟩
theorem GS.weaken {S' : Nat → Prop} (h : GS w0 xb bx bf bt br fr to la L S X wr) (hS : ∀ k, S k → k < wr.heap.size → S' k) (hx : ¬ S' xb) (ho : Open S' wr) : GS w0 xb bx bf bt br fr to la L S' X wr :=
  ⟨h.ix.weaken hS hx, h.row.weaken hS, h.cbx, h.cbf, h.cbt, h.cbr, h.below, ho, h.lo, h.ne⟩
theorem one_cell' {b : Nat} {v : Value} {t : TypeId} (h : wr.heap[b]? = some (.cells #[v] t (0, 0))) : wr.cell? ⟨b, 0, none⟩ = some v := by simp [World.cell?, h]
theorem one_free' {b : Nat} {v : Value} {t : TypeId} (h : wr.heap[b]? = some (.cells #[v] t (0, 0))) : wr.frozen? ⟨b, 0, none⟩ = false := by simp [World.frozen?, h]
end

end Go.Proofs.Ytcgjppacnhmjlaa
