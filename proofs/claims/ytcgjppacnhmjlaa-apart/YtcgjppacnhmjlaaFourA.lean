/- Four indexes beside one another, with two lists of texts and blocks that stay. -/
import Derived.Test.YtcgjppacnhmjlaaTraceless
import Derived.Test.YtcgjppacnhmjlaaChg
set_option linter.unusedVariables false
set_option linter.unusedSimpArgs false
namespace Go.Proofs.Ytcgjppacnhmjlaa
open Go.RowKit

/-- Blocks that stay as they are. -/
def Stay (S : Nat → Prop) (w : World) (B : List (Nat × Obj)) : Prop := ∀ e ∈ B, S e.1 ∧ w.heap[e.1]? = some e.2
section
variable {S S' : Nat → Prop} {w w' : World} {B : List (Nat × Obj)} {z : Nat}
theorem Stay.on (h : Stay S w B) (hb : Below w.heap.size w w') : Stay S w' B := fun e he => ⟨(h e he).1, blk_later hb (h e he).2⟩
theorem Stay.but (h : Stay S w B) (hb : But z w w') (hz : ¬ S z) : Stay S w' B := fun e he => ⟨(h e he).1, (hb.block e.1 (idx_lt (h e he).2) (fun e1 => hz (e1 ▸ (h e he).1))).trans (h e he).2⟩
theorem Stay.weaken (h : Stay S w B) (hS : ∀ k, S k → k < w.heap.size → S' k) : Stay S' w B := fun e he => ⟨hS _ (h e he).1 (idx_lt (h e he).2), (h e he).2⟩
theorem Stay.nil : Stay S w [] := fun e he => by cases he
theorem Stay.cons {k : Nat} {ob : Obj} (h : Stay S w B) (h1 : S k) (h2 : w.heap[k]? = some ob) : Stay S w ((k, ob) :: B) := fun e he => by
  rcases List.mem_cons.mp he with rfl | he
  · exact ⟨h1, h2⟩
  · exact h e he
end

structure Four (S : Nat → Prop) (x y p q : Nat) (w0 wr : World) (la ma : Option Addr) (L M : List ByteArray) (X Y P Q : List KV) (B : List (Nat × Obj)) : Prop where
  ix : IndexAt S wr x X
  iy : IndexAt S wr y Y
  ip : IndexAt S wr p P
  iq : IndexAt S wr q Q
  rl : RowS S wr la L
  rm : RowS S wr ma M
  st : Stay S wr B
  below : Below w0.heap.size w0 wr
  opn : Open S wr
  dis : x ≠ p ∧ x ≠ q ∧ y ≠ p ∧ y ≠ q ∧ p ≠ q
  lo : w0.heap.size ≤ p ∧ w0.heap.size ≤ q
section
variable {S S' : Nat → Prop} {x y p q : Nat} {w0 wr w' : World} {la ma : Option Addr} {L M : List ByteArray} {X Y P Q P' Q' : List KV} {B : List (Nat × Obj)}
theorem Four.on (h : Four S x y p q w0 wr la ma L M X Y P Q B) (hb : Below wr.heap.size wr w') : Four S x y p q w0 w' la ma L M X Y P Q B :=
  ⟨h.ix.on hb, h.iy.on hb, h.ip.on hb, h.iq.on hb, h.rl.on hb, h.rm.on hb, h.st.on hb, h.below.trans (hb.mono h.below.size), h.opn.later hb, h.dis, h.lo⟩
theorem Four.drew (h : Four S x y p q w0 wr la ma L M X Y P Q B) : Four S x y p q w0 wr.drew la ma L M X Y P Q B := h.on (Below.refl _ _).drew
theorem Four.butP (h : Four S x y p q w0 wr la ma L M X Y P Q B) (hp : IndexAt S w' p P') (hb : But p wr w') : Four S x y p q w0 w' la ma L M X Y P' Q B :=
  ⟨h.ix.but hb h.dis.1 hp.out, h.iy.but hb h.dis.2.2.1 hp.out, hp, h.iq.but hb h.dis.2.2.2.2.symm hp.out, h.rl.but hb hp.out, h.rm.but hb hp.out, h.st.but hb hp.out, h.below.trans (hb.below h.lo.1 h.below.size), h.opn.but hb, h.dis, h.lo⟩
theorem Four.butQ (h : Four S x y p q w0 wr la ma L M X Y P Q B) (hq : IndexAt S w' q Q') (hb : But q wr w') : Four S x y p q w0 w' la ma L M X Y P Q' B :=
  ⟨h.ix.but hb h.dis.2.1 hq.out, h.iy.but hb h.dis.2.2.2.1 hq.out, h.ip.but hb h.dis.2.2.2.2 hq.out, hq, h.rl.but hb hq.out, h.rm.but hb hq.out, h.st.but hb hq.out, h.below.trans (hb.below h.lo.2 h.below.size), h.opn.but hb, h.dis, h.lo⟩
/-- Another index has changed. -/
theorem Four.but {r : Nat} (h : Four S x y p q w0 wr la ma L M X Y P Q B) (hb : But r wr w') (hr : ¬ S r) (h1 : x ≠ r ∧ y ≠ r ∧ p ≠ r ∧ q ≠ r) (hlo : w0.heap.size ≤ r) : Four S x y p q w0 w' la ma L M X Y P Q B :=
  ⟨h.ix.but hb h1.1 hr, h.iy.but hb h1.2.1 hr, h.ip.but hb h1.2.2.1 hr, h.iq.but hb h1.2.2.2 hr, h.rl.but hb hr, h.rm.but hb hr, h.st.but hb hr, h.below.trans (hb.below hlo h.below.size), h.opn.but hb, h.dis, h.lo⟩
theorem Four.keep (h : Four S x y p q w0 wr la ma L M X Y P Q B) {ob : Obj} : Four S x y p q w0 (wr.alloc ob) la ma L M X Y P Q ((wr.heap.size, ob) :: B) :=
  have h' := h.on (below_alloc wr ob)
  ⟨h'.ix, h'.iy, h'.ip, h'.iq, h'.rl, h'.rm, h'.st.cons (h.opn _ (Nat.le_refl _)) (heap_alloc_new wr ob), h'.below, h'.opn, h.dis, h.lo⟩
theorem Four.cellL {k : Nat} (h : Four S x y p q w0 wr (some ⟨k, 0, none⟩) ma L M X Y P Q B) {i : Nat} {s : ByteArray} (hs : L[i]? = some s) : wr.cell? ⟨k, i, none⟩ = some (.string s) := by
  rcases h.rl with ⟨_, h1⟩ | ⟨k', h1, _, _, h4⟩
  · cases h1
  · cases h1; exact h4 i s hs
theorem Four.cellM {k : Nat} (h : Four S x y p q w0 wr la (some ⟨k, 0, none⟩) L M X Y P Q B) {i : Nat} {s : ByteArray} (hs : M[i]? = some s) : wr.cell? ⟨k, i, none⟩ = some (.string s) := by
  rcases h.rm with ⟨_, h1⟩ | ⟨k', h1, _, _, h4⟩
  · cases h1
  · cases h1; exact h4 i s hs
theorem four_putQ (h : Four S x y p q w0 wr la ma L M X Y P Q B) {key : ByteArray} {v : ByteArray} (hk : key.size ≤ 64) (hf : Q.length < 3000) :
    Calls Try.prog 11 #[.pointer (some ⟨q, 0, none⟩), .string key, .string v] wr fun e w' => (∃ a b, e = .returned (.tuple #[.string a, .bool b, .int .i64 0])) ∧ Four S x y p q w0 w' la ma L M X Y P (ins (kof key) v Q) B :=
  (put_room h.opn h.iq hk hf).mono fun e w' he => ⟨he.1, h.butQ he.2.1 he.2.2⟩
theorem four_union (h : Four S x y p q w0 wr la ma L M X Y P Q B) (hf : P.length + Y.length ≤ 3000) :
    Calls Try.prog 18 #[.pointer (some ⟨p, 0, none⟩), .pointer (some ⟨y, 0, none⟩)] wr fun e w' => e = .returned (.int .i64 0) ∧ Four S x y p q w0 w' la ma L M X Y (uni P Y) Q B :=
  (indexUnion_any h.opn h.ip h.iy h.dis.2.2.1.symm hf).mono fun e w' he => ⟨he.1, h.butP he.2.1 he.2.2⟩
end
/-- Get, of what is there. -/
theorem idx_get {S : Nat → Prop} {w : World} {z : Nat} {Z : List KV} (h : IndexAt S w z Z) {key : ByteArray} (hk : key.size ≤ 64) {u : ByteArray} (hu : lk (kof key) Z = some u) :
    Calls Try.prog 13 #[.pointer (some ⟨z, 0, none⟩), .string key] w fun e w' => e = .returned (.tuple #[.string u, .bool true]) ∧ Below w.heap.size w w' :=
  (indexGet_any h (by omega)).mono fun e w' he => ⟨by rw [he.1, show lk key.data.toList Z = some u from hu]; rfl, he.2⟩
/-- Shape hangs on the pairs alone. -/
theorem idx_shape {Z : List KV} {c : Nat → Nat} {g : Nat} (hc : ShapeL Z c g) {S : Nat → Prop} {w : World} {z : Nat} (h : IndexAt S w z Z) :
    Calls Try.prog 14 #[.pointer (some ⟨z, 0, none⟩)] w fun e w' => e = .returned (shapeV c g) ∧ Below w.heap.size w w' := by
  obtain ⟨c', g', hs, hcall⟩ := indexShape_any h
  obtain ⟨rfl, rfl⟩ := hs.uniq hc
  exact hcall
theorem idx_shapeL {S : Nat → Prop} {w : World} {z : Nat} {Z : List KV} (h : IndexAt S w z Z) : ∃ c g, ShapeL Z c g := by
  obtain ⟨c', g', hs, _⟩ := indexShape_any h
  exact ⟨c', g', hs⟩
theorem IndexAt.weaken {S S' : Nat → Prop} {w : World} {z : Nat} {Z : List KV} (h : IndexAt S w z Z) (hS : ∀ k, S k → k < w.heap.size → S' k) (ho : ¬ S' z) : IndexAt S' w z Z := by
  obtain ⟨n, tp, hx, hT⟩ := h.tree
  refine ⟨⟨n, tp, hx, ?_⟩, ho, h.few⟩
  rcases hT with hT | ⟨t, h1, h2⟩
  · exact .inl hT
  · exact .inr ⟨t, h1, h2.weaken hS⟩

/-- All keys of a list get one value: onto some pairs, or by way of a union. -/
theorem puts_uni (v : ByteArray) (M : List ByteArray) {X : List KV} (hX : Srt X) : puts (M.map fun k => (k, v)) X = uni X (puts (M.map fun k => (k, v)) []) := by
  refine uni_eq hX (srt_puts List.Pairwise.nil) (srt_puts hX) fun e => ?_
  rw [mem_puts (f := fun _ => v), mem_puts (f := fun _ => v)]
  constructor
  · rintro (h | ⟨h1, h2⟩)
    · exact .inl (.inl h)
    · refine .inr ⟨h1, fun q hq => ?_⟩
      rcases (mem_puts (f := fun _ => v)).mp hq with ⟨k, h3, rfl⟩ | ⟨h3, _⟩
      · exact h2 k h3
      · cases h3
  · rintro ((h | ⟨h, _⟩) | ⟨h1, h2⟩)
    · exact .inl h
    · cases h
    · exact .inr ⟨h1, fun k hk => h2 (kof k, v) ((mem_puts (f := fun _ => v)).mpr (.inl ⟨k, hk, rfl⟩))⟩

section
variable {S S' : Nat → Prop} {x y p q : Nat} {w0 wr w1 w2 w' : World} {la ma : Option Addr} {L M : List ByteArray} {X Y P Q : List KV} {B : List (Nat × Obj)}
theorem TreeN.weaken {n : Nat} {tp : Option Addr} (h : TreeN S n wr tp X) (hS : ∀ k, S k → k < wr.heap.size → S' k) : TreeN S' n wr tp X := by
  rcases h with h | ⟨t, h1, h2⟩
  · exact .inl h
  · exact .inr ⟨t, h1, h2.weaken hS⟩
/-- A new index, a copy. -/
def NewIx (S : Nat → Prop) (w : World) (z : Nat) (Z : List KV) : Prop := ∃ n tp, w.heap[z]? = some (.cells #[.pointer tp] 78 (0, 0)) ∧ TreeN S n w tp Z
theorem NewIx.on {z : Nat} {Z : List KV} (h : NewIx S wr z Z) (hb : Below wr.heap.size wr w') : NewIx S w' z Z := by
  obtain ⟨n, tp, h1, h2⟩ := h
  exact ⟨n, tp, blk_later hb h1, h2.on hb⟩
theorem NewIx.at {z : Nat} {Z : List KV} (h : NewIx S wr z Z) (hS : ∀ k, S k → k < wr.heap.size → S' k) (ho : ¬ S' z) (hf : Z.length ≤ 3000) : IndexAt S' wr z Z := by
  obtain ⟨n, tp, h1, h2⟩ := h
  exact ⟨⟨n, tp, h1, h2.weaken hS⟩, ho, hf⟩
theorem four_start (h : Two x y w0 wr la ma L M X Y) (h1 : NewIx (fun k => Sxy x y k ∧ k < wr.heap.size) w1 wr.heap.size X) (hlt1 : wr.heap.size < w1.heap.size) (hb1 : Below wr.heap.size wr w1)
    (h2 : NewIx (fun k => Sxy x y k ∧ k < wr.heap.size) w2 w1.heap.size X) (hlt2 : w1.heap.size < w2.heap.size) (hb2 : Below w1.heap.size w1 w2) :
    Four (fun k => k ≠ x ∧ k ≠ y ∧ k ≠ wr.heap.size ∧ k ≠ w1.heap.size) x y wr.heap.size w1.heap.size w0 w2 la ma L M X Y X X [] := by
  have hb := hb1.trans (hb2.mono hb1.size)
  have lx := h.ix.lt
  have ly := h.iy.lt
  have hS0 : ∀ k, Sxy x y k → k < wr.heap.size → k ≠ x ∧ k ≠ y ∧ k ≠ wr.heap.size ∧ k ≠ w1.heap.size := fun k h3 h4 => ⟨h3.1, h3.2, by omega, by omega⟩
  refine ⟨(h.ix.weaken hS0 (fun e => e.1 rfl)).on hb, (h.iy.weaken hS0 (fun e => e.2.1 rfl)).on hb, ?_, ?_, (h.rl.weaken hS0).on hb, (h.rm.weaken hS0).on hb, Stay.nil, h.below.trans (hb.mono h.below.size), fun k hk => ⟨by omega, by omega, by omega, by omega⟩, ⟨by omega, by omega, by omega, by omega, by omega⟩, h.below.size, Nat.le_trans h.below.size hb1.size⟩
  · exact ((h1.on hb2).at (fun k h3 _ => hS0 k h3.1 h3.2) (fun e => e.2.2.1 rfl) h.ix.few)
  · exact (h2.at (fun k h3 _ => hS0 k h3.1 h3.2) (fun e => e.2.2.2 rfl) h.ix.few)
theorem Four.third (h : Four S x y p q w0 wr la ma L M X Y P Q B) (hlt : wr.heap.size < w'.heap.size) (hb : Below wr.heap.size wr w') : Four (fun k => S k ∧ k ≠ wr.heap.size) x y p q w0 w' la ma L M X Y P Q B := by
  have hS0 : ∀ k, S k → k < wr.heap.size → S k ∧ k ≠ wr.heap.size := fun k h3 h4 => ⟨h3, by omega⟩
  exact ⟨(h.ix.weaken hS0 (fun e => h.ix.out e.1)).on hb, (h.iy.weaken hS0 (fun e => h.iy.out e.1)).on hb, (h.ip.weaken hS0 (fun e => h.ip.out e.1)).on hb, (h.iq.weaken hS0 (fun e => h.iq.out e.1)).on hb, (h.rl.weaken hS0).on hb, (h.rm.weaken hS0).on hb, (h.st.weaken hS0).on hb, h.below.trans (hb.mono h.below.size), fun k hk => ⟨h.opn k (by omega), by omega⟩, h.dis, h.lo⟩
/-- Both indexes new, both lists cut before. -/
theorem two_start2 (hb2 : Below w0.heap.size w0 w1) (hl : RowS (fun k => w0.heap.size ≤ k) w1 la L) (hb3 : Below w1.heap.size w1 w2) (hm : RowS (fun k => w1.heap.size ≤ k) w2 ma M) :
    Two w2.heap.size (w2.heap.size + 1) w0 ((w2.alloc (.cells #[.pointer none] 78)).alloc (.cells #[.pointer none] 78)) la ma L M [] [] := by
  have b4 : Below w2.heap.size w2 ((w2.alloc (.cells #[.pointer none] 78)).alloc (.cells #[.pointer none] 78)) := ((Below.refl _ _).alloc (Nat.le_refl _) _).alloc (by simp) _
  have hb := hb2.trans (hb3.mono hb2.size)
  have hs := hb.size
  refine ⟨idx_new (.inl rfl) (old_new _ _ _), idx_new (.inr rfl) (by have := heap_alloc_new (w2.alloc (.cells #[.pointer none] 78)) (.cells #[.pointer none] 78); simpa using this), ?_, ?_, hb.trans (b4.mono hb.size), fun k hk => ?_, by omega, hs, by omega⟩
  · exact ((hl.on hb3).weaken fun k _ hk => ⟨by omega, by omega⟩).on b4
  · exact (hm.weaken fun k _ hk => ⟨by omega, by omega⟩).on b4
  · simp at hk; exact ⟨by omega, by omega⟩
end

/-- One value for the first keys of a list. -/
def pv (v : ByteArray) (M : List ByteArray) (j : Nat) (l : List KV) : List KV := puts ((M.take j).map fun k => (k, v)) l
theorem pv_succ (v : ByteArray) (M : List ByteArray) (j : Nat) (s : ByteArray) (l : List KV) (h : M[j]? = some s) : pv v M (j + 1) l = ins (kof s) v (pv v M j l) := by
  unfold pv; rw [take_snoc' M j s h, List.map_append, List.map_cons, List.map_nil, puts_snoc]
theorem len_pv (v : ByteArray) (M : List ByteArray) (j : Nat) (l : List KV) (hl : Srt l) : (pv v M j l).length ≤ l.length + M.length := by
  have := len_puts (ps := (M.take j).map fun k => (k, v)) (l := l) hl
  unfold pv; simp at this ⊢; omega
theorem srt_pv (v : ByteArray) (M : List ByteArray) (j : Nat) (l : List KV) (hl : Srt l) : Srt (pv v M j l) := srt_puts hl
theorem pv_all (v : ByteArray) (M : List ByteArray) (l : List KV) : pv v M M.length l = puts (M.map fun k => (k, v)) l := by unfold pv; rw [List.take_of_length_le (Nat.le_refl _)]
theorem pv_uni (v : ByteArray) (M : List ByteArray) {X : List KV} (hX : Srt X) : uni X (pv v M M.length []) = pv v M M.length X := by rw [pv_all, pv_all, puts_uni v M hX]
theorem lk_pv (v : ByteArray) (M : List ByteArray) (l : List KV) (hl : Srt l) {s : ByteArray} (h : s ∈ M) : lk (kof s) (pv v M M.length l) = some v := by
  rw [pv_all]
  exact lk_some (srt_puts hl) ((mem_puts (f := fun _ => v)).mpr (.inl ⟨s, h, rfl⟩))
theorem lk_pv2 (v u : ByteArray) (M : List ByteArray) (l : List KV) (hl : Srt l) {s : ByteArray} (h : lk (kof s) l = some u) : ∃ u', lk (kof s) (pv v M M.length l) = some u' := by
  by_cases hm : s ∈ M
  · exact ⟨v, lk_pv v M l hl hm⟩
  · refine ⟨u, ?_⟩
    rw [pv_all]
    exact lk_some (srt_puts hl) ((mem_puts (f := fun _ => v)).mpr (.inr ⟨lk_mem h, fun k hk e => hm (kof_inj e ▸ hk)⟩))
/-- What the last loop does with the copy keeps it small. -/
theorem len_le_del (k : List UInt8) {l : List KV} (h : Srt l) : l.length ≤ (del k l).length + 1 := by
  cases hu : lk k l with
  | none => rw [del_none hu]; omega
  | some u => have := len_del h hu; omega
theorem del_ins_same (k : List UInt8) (v : ByteArray) {l : List KV} (h : Srt l) : del k (ins k v l) = del k l := by
  refine del_eq h (srt_del (srt_ins h)) fun e => ?_
  rw [mem_del, mem_ins]
  constructor
  · rintro ⟨h | h, h2⟩
    · exact absurd (by rw [h]) h2
    · exact h
  · rintro ⟨h, h2⟩
    exact ⟨.inr ⟨h, h2⟩, h2⟩
theorem del_comm (k k' : List UInt8) (l : List KV) : del k (del k' l) = del k' (del k l) := by
  unfold del; rw [List.filter_filter, List.filter_filter]; congr 1; funext e; rw [Bool.and_comm]
theorem small_step (k g : List UInt8) (v : ByteArray) {l : List KV} (h : Srt l) {n : Nat} (hn : (del k l).length ≤ n) : (del g l).length ≤ n + 1 ∧ (del k (ins k v (del g l))).length ≤ n := by
  have h1 := len_le_del k h
  refine ⟨Nat.le_trans (len_del_le _ _) (by omega), ?_⟩
  rw [del_ins_same k v (srt_del h), del_comm]
  exact Nat.le_trans (len_del_le _ _) hn

end Go.Proofs.Ytcgjppacnhmjlaa
