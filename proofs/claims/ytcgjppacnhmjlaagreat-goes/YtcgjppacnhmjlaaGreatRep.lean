/- How a tree of keys and values lies in memory, and what keeps it. -/
import Derived.Test.YtcgjppacnhmjlaaGreatLeafE
import Derived.Test.YtcgjppacnhmjlaaGreatPureB
set_option linter.unusedVariables false
set_option linter.unusedSimpArgs false
namespace Go.Proofs.YtcgjppacnhmjlaaGreat
open Go.RowKit

theorem pw_ge {xs : List UInt8} (h : xs.Pairwise (· < ·)) : ∀ (i : Nat) (x : UInt8), xs[i]? = some x → i ≤ x.toNat := by
  intro i
  induction i with
  | zero => intro x _; exact Nat.zero_le _
  | succ i ih =>
    intro x hx
    have hi := (List.getElem?_eq_some_iff.mp hx).1
    have h1 : xs[i]? = some (xs[i]'(by omega)) := List.getElem?_eq_getElem _
    have h2 := ih _ h1
    have h3 : (xs[i]'(by omega)).toNat < x.toNat := pw_get h h1 hx (by omega)
    omega
theorem pw_len {xs : List UInt8} (h : xs.Pairwise (· < ·)) : xs.length ≤ 256 := by
  rcases Nat.lt_or_ge 256 xs.length with h1 | h1
  · have h2 := pw_ge h 256 _ (List.getElem?_eq_getElem h1)
    have h3 := UInt8.toNat_lt (xs[256]'h1)
    omega
  · exact h1
/-- What all keys of a node begin with its prefix begins with. -/
theorem Shaped.pre_of {V : Type} {p xs : List UInt8} {ov : Option V} {gs : List (List (List UInt8 × V))} {l : List (List UInt8 × V)} (h : Shaped p ov xs gs l) {q : List UInt8} (hq : ∀ e ∈ l, q <+: e.1) : q <+: p := by
  cases ov with
  | some v => exact hq (p, v) (h.mem.mpr (.inl ⟨rfl, rfl⟩))
  | none =>
    have h2 := h.two rfl
    obtain ⟨g0, hg0⟩ : ∃ g, gs[0]? = some g := ⟨gs[0], List.getElem?_eq_getElem _⟩
    obtain ⟨g1, hg1⟩ : ∃ g, gs[1]? = some g := ⟨gs[1], List.getElem?_eq_getElem _⟩
    obtain ⟨x0, hx0⟩ := h.grps.byte hg0
    obtain ⟨x1, hx1⟩ := h.grps.byte hg1
    obtain ⟨e0, he0⟩ := List.exists_mem_of_ne_nil _ (h.grps.some' 0 g0 hg0)
    obtain ⟨e1, he1⟩ := List.exists_mem_of_ne_nil _ (h.grps.some' 1 g1 hg1)
    obtain ⟨r0, hr0⟩ := h.grps.pre 0 x0 g0 hx0 hg0 e0 he0
    obtain ⟨r1, hr1⟩ := h.grps.pre 1 x1 g1 hx1 hg1 e1 he1
    have q0 := hq e0 (h.mem.mpr (.inr ⟨0, g0, hg0, he0⟩))
    have q1 := hq e1 (h.mem.mpr (.inr ⟨1, g1, hg1, he1⟩))
    rw [hr0] at q0; rw [hr1] at q1
    rcases Nat.lt_or_ge p.length q.length with hl | hl
    · exfalso
      have hx : x0 = x1 := by
        have a0 := List.prefix_iff_getElem?.mp q0 _ hl
        have a1 := List.prefix_iff_getElem?.mp q1 _ hl
        simp at a0 a1
        rw [a0, a1]
      have := pw_get h.grps.pw hx0 hx1 (by omega)
      rw [hx] at this; exact UInt8.lt_irrefl _ this
    · exact List.prefix_of_prefix_length_le q0 (List.prefix_append _ _) hl

abbrev KV := List UInt8 × Int

/-- A node's own value. -/
def OwnAt (S : Nat → Prop) (w : World) (vp : Option Addr) : Option Int → Prop
  | none => vp = none
  | some v => ∃ vb, S vb ∧ vp = some ⟨vb, 0, none⟩ ∧ w.cell? ⟨vb, 0, none⟩ = some (.int .i64 v)
/-- A node's list of branches. -/
def RowAt (S : Nat → Prop) (w : World) (bv : Value) (cs : List Nat) : Prop :=
  (cs = [] ∧ bv = .slice none 0 0) ∨ ∃ k o cap, S k ∧ bv = .slice (some ⟨k, o, none⟩) cs.length cap ∧ cs.length ≤ cap ∧ cap ≤ maxLen ∧ BrAt w k o cs ∧ cs ≠ []
/-- A node's four fields. -/
structure NodeAt (S : Nat → Prop) (w : World) (b : Nat) (pre : ByteArray) (vp : Option Addr) (bv : Value) (n : Nat) : Prop where
  inS : S b
  blk : w.heap[b]? = some (node pre (.pointer vp) bv n)
  short : pre.size ≤ 64
theorem NodeAt.c0 {S : Nat → Prop} {w : World} {b : Nat} {pre : ByteArray} {vp : Option Addr} {bv : Value} {n : Nat} (h : NodeAt S w b pre vp bv n) : w.cell? ⟨b, 0, none⟩ = some (.string pre) := by simp [World.cell?, h.blk, node]
theorem NodeAt.c1 {S : Nat → Prop} {w : World} {b : Nat} {pre : ByteArray} {vp : Option Addr} {bv : Value} {n : Nat} (h : NodeAt S w b pre vp bv n) : w.cell? ⟨b, 1, none⟩ = some (.pointer vp) := by simp [World.cell?, h.blk, node]
theorem NodeAt.c2 {S : Nat → Prop} {w : World} {b : Nat} {pre : ByteArray} {vp : Option Addr} {bv : Value} {n : Nat} (h : NodeAt S w b pre vp bv n) : w.cell? ⟨b, 2, none⟩ = some bv := by simp [World.cell?, h.blk, node]
theorem NodeAt.c3 {S : Nat → Prop} {w : World} {b : Nat} {pre : ByteArray} {vp : Option Addr} {bv : Value} {n : Nat} (h : NodeAt S w b pre vp bv n) : w.cell? ⟨b, 3, none⟩ = some (.int .i64 n) := by simp [World.cell?, h.blk, node]
/-- The tree at block b, of at most n levels, within the blocks S, is that of the pairs l. -/
def RepN (S : Nat → Prop) : Nat → World → Nat → List KV → Prop
  | 0, _, _, _ => False
  | n + 1, w, b, l => ∃ (pre : ByteArray) (vp : Option Addr) (bv : Value) (ov : Option Int) (cs : List Nat) (xs : List UInt8) (gs : List (List KV)),
      NodeAt S w b pre vp bv l.length ∧ OwnAt S w vp ov ∧ RowAt S w bv cs ∧ cs.length = gs.length ∧ (∀ (i c : Nat) g, cs[i]? = some c → gs[i]? = some g → RepN S n w c g) ∧ Shaped pre.data.toList ov xs gs l

/-- Within S nothing has turned. -/
def Kept (S : Nat → Prop) (w w' : World) : Prop := ∀ k, S k → w'.heap[k]? = w.heap[k]?
theorem Kept.cell {S : Nat → Prop} {w w' : World} (h : Kept S w w') {b o : Nat} {v : Value} (hb : S b) (hc : w.cell? ⟨b, o, none⟩ = some v) : w'.cell? ⟨b, o, none⟩ = some v :=
  (World.cell?_of_block (w := w) (a := ⟨b, o, none⟩) (h b hb)).trans hc
theorem RepN.keep {S S' : Nat → Prop} {w w' : World} (hk : Kept S w w') (hS : ∀ k, S k → k < w.heap.size → S' k) : ∀ {n m b : Nat} {l : List KV}, n ≤ m → RepN S n w b l → RepN S' m w' b l
  | 0, _, _, _, _, h => h.elim
  | n + 1, 0, _, _, hnm, _ => by omega
  | n + 1, m + 1, b, l, hnm, ⟨pre, vp, bv, ov, cs, xs, gs, hN, hO, hR, hl, hC, hs⟩ => by
    refine ⟨pre, vp, bv, ov, cs, xs, gs, ⟨hS b hN.inS (World.block_lt_of_cell? _ _ hN.c0), (hk b hN.inS).trans hN.blk, hN.short⟩, ?_, ?_, hl, fun i c g h1 h2 => RepN.keep hk hS (by omega) (hC i c g h1 h2), hs⟩
    · cases ov with
      | none => exact hO
      | some v => obtain ⟨vb, h1, h2, h3⟩ := hO; exact ⟨vb, hS vb h1 (World.block_lt_of_cell? _ _ h3), h2, hk.cell h1 h3⟩
    · rcases hR with h | ⟨k, o, cap, h1, h2, h3, h4, h5, h6⟩
      · exact .inl h
      · obtain ⟨c0, cr, rfl⟩ := List.exists_cons_of_ne_nil h6
        exact .inr ⟨k, o, cap, hS k h1 (World.block_lt_of_cell? _ _ (h5 0 c0 rfl)), h2, h3, h4, fun i c h => hk.cell h1 (h5 i c h), h6⟩
theorem RepN.fuel {S : Nat → Prop} {w : World} {n m b : Nat} {l : List KV} (h : RepN S n w b l) (hnm : n ≤ m) : RepN S m w b l := h.keep (fun _ _ => rfl) (fun _ h _ => h) hnm
theorem RepN.frame {S : Nat → Prop} {w w' : World} {n b : Nat} {l : List KV} (h : RepN S n w b l) (hk : Kept S w w') : RepN S n w' b l := h.keep hk (fun _ h _ => h) (Nat.le_refl _)
theorem RepN.weaken {S S' : Nat → Prop} {w : World} {n b : Nat} {l : List KV} (h : RepN S n w b l) (hS : ∀ k, S k → k < w.heap.size → S' k) : RepN S' n w b l := h.keep (fun _ _ => rfl) hS (Nat.le_refl _)
theorem RepN.later {S S' : Nat → Prop} {w w' : World} {n m b : Nat} {l : List KV} (h : RepN S n w b l) (hb : Below w.heap.size w w') (hS : ∀ k, S k → k < w.heap.size → S' k) (hnm : n ≤ m) : RepN S' m w' b l := by
  have h1 : RepN (fun k => S k ∧ k < w.heap.size) n w b l := h.weaken (fun k h1 h2 => ⟨h1, h2⟩)
  exact h1.keep (fun k hk => hb.block k hk.2) (fun k hk _ => hS k hk.1 hk.2) hnm
theorem RepN.srt {S : Nat → Prop} {w : World} {n b : Nat} {l : List KV} (h : RepN S n w b l) : Srt l := by
  cases n with
  | zero => exact h.elim
  | succ n => obtain ⟨pre, vp, bv, ov, cs, xs, gs, hN, hO, hR, hl, hC, hs⟩ := h; exact hs.srt
theorem RepN.ne {S : Nat → Prop} {w : World} {n b : Nat} {l : List KV} (h : RepN S n w b l) : l ≠ [] := by
  cases n with
  | zero => exact h.elim
  | succ n =>
    obtain ⟨pre, vp, bv, ov, cs, xs, gs, hN, hO, hR, hl, hC, hs⟩ := h
    intro h0
    subst h0
    cases ov with
    | some v => exact absurd (hs.mem.mpr (.inl ⟨rfl, rfl⟩) : (pre.data.toList, v) ∈ []) (by simp)
    | none =>
      have h2 := hs.two rfl
      have hg : gs[0]? = some gs[0] := List.getElem?_eq_getElem _
      obtain ⟨e, he⟩ := List.exists_mem_of_ne_nil _ (hs.grps.some' 0 _ hg)
      exact absurd (hs.mem.mpr (.inr ⟨0, _, hg, he⟩) : e ∈ []) (by simp)
theorem RepN.lt {S : Nat → Prop} {w : World} {n b : Nat} {l : List KV} (h : RepN S n w b l) : S b ∧ b < w.heap.size := by
  cases n with
  | zero => exact h.elim
  | succ n => obtain ⟨pre, vp, bv, ov, cs, xs, gs, hN, hO, hR, hl, hC, hs⟩ := h; exact ⟨hN.inS, World.block_lt_of_cell? _ _ hN.c0⟩
theorem RepN.size {S : Nat → Prop} {w : World} {n b : Nat} {l : List KV} (h : RepN S n w b l) : w.cell? ⟨b, 3, none⟩ = some (.int .i64 l.length) := by
  cases n with
  | zero => exact h.elim
  | succ n => obtain ⟨pre, vp, bv, ov, cs, xs, gs, hN, hO, hR, hl, hC, hs⟩ := h; exact hN.c3
/-- The byte behind q in the prefix of a tree all of whose keys begin with q and that byte. -/
theorem RepN.byte {S : Nat → Prop} {w : World} {n b : Nat} {l : List KV} (h : RepN S n w b l) {q : List UInt8} {x : UInt8} (hq : ∀ e ∈ l, ∃ r, e.1 = q ++ x :: r) :
    ∃ p : ByteArray, w.cell? ⟨b, 0, none⟩ = some (.string p) ∧ p.size ≤ 1000000 ∧ ∃ h : q.length < p.size, p[q.length] = x := by
  cases n with
  | zero => exact h.elim
  | succ n =>
    obtain ⟨pre, vp, bv, ov, cs, xs, gs, hN, hO, hR, hl, hC, hs⟩ := h
    have hp := hs.pre_of (q := q ++ [x]) (fun e he => by obtain ⟨r, hr⟩ := hq e he; rw [hr]; exact ⟨r, by simp⟩)
    have hlen : q.length < pre.data.toList.length := by have := hp.length_le; simp at this ⊢; omega
    refine ⟨pre, hN.c0, by have := hN.short; omega, by simpa using hlen, ?_⟩
    have := List.prefix_iff_getElem?.mp hp q.length (by simp)
    simp at this
    obtain ⟨h1, h2⟩ := Array.getElem?_eq_some_iff.mp this
    exact h2
theorem repBytes {S : Nat → Prop} {w : World} {n : Nat} {p : List UInt8} {cs : List Nat} {xs : List UInt8} {gs : List (List KV)} (hl : cs.length = gs.length) (hC : ∀ (i c : Nat) g, cs[i]? = some c → gs[i]? = some g → RepN S n w c g) (hG : Grps p xs gs) : BytesAt w p.length cs xs := by
  refine ⟨by rw [hl, hG.len], fun i b x h1 h2 => ?_⟩
  obtain ⟨g, hg⟩ := hG.grp h2
  exact (hC i b g h1 hg).byte (hG.pre i x g h2 hg)
theorem repSizes {S : Nat → Prop} {w : World} {n : Nat} {cs : List Nat} {gs : List (List KV)} (hl : cs.length = gs.length) (hC : ∀ (i c : Nat) g, cs[i]? = some c → gs[i]? = some g → RepN S n w c g) : SzAt w cs (gs.map List.length) := by
  refine ⟨by rw [hl, List.length_map], fun i c m h1 h2 => ?_⟩
  rw [List.getElem?_map, Option.map_eq_some_iff] at h2
  obtain ⟨g, hg, rfl⟩ := h2
  exact (hC i c g h1 hg).size

theorem RepN.blk {S : Nat → Prop} {w : World} {n b : Nat} {l : List KV} (h : RepN S n w b l) : ∃ cells, w.heap[b]? = some (.cells cells 71 (0, 0)) := by
  cases n with
  | zero => exact h.elim
  | succ n => obtain ⟨pre, vp, bv, ov, cs, xs, gs, hN, hO, hR, hl, hC, hs⟩ := h; exact ⟨_, hN.blk⟩
theorem RepN.shape {S : Nat → Prop} {w : World} {n b : Nat} {l : List KV} (h : RepN S n w b l) : w.shape? b = some (71, 4) := by
  cases n with
  | zero => exact h.elim
  | succ n => obtain ⟨pre, vp, bv, ov, cs, xs, gs, hN, hO, hR, hl, hC, hs⟩ := h; simp [World.shape?, hN.blk, node]

end Go.Proofs.YtcgjppacnhmjlaaGreat
