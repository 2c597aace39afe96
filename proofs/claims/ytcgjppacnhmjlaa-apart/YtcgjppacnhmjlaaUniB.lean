/- Two lists of branches made one: merged. -/
import Derived.Test.YtcgjppacnhmjlaaUniA
import Derived.Test.YtcgjppacnhmjlaaIndexB
set_option linter.unusedVariables false
set_option linter.unusedSimpArgs false
namespace Go.Proofs.Ytcgjppacnhmjlaa
open Go.RowKit
attribute [local go_sem ↓] Go.wp_at_zero Go.wp_at_succ

theorem but_setCells (g : Nat) : ∀ (vs : List Value) (o : Nat) (w : World), But g w (w.setCells g o vs)
  | [], _, w => ⟨rfl, rfl, rfl, Nat.le_refl _, fun _ _ _ => rfl⟩
  | v :: r, o, w => by
    have h1 : But g w (w.setCell ⟨g, o, none⟩ v) := ⟨rfl, rfl, rfl, by simp [World.setCell], fun k _ hx => Below.heap_setCell _ _ _ _ hx⟩
    exact h1.trans (but_setCells g r (o + 1) _)
/-- The row that is being made, and what lies in it. -/
structure Both (w : World) (g C : Nat) (es : List Nat) : Prop where
  br : BrAt w g 0 es
  room : ∀ j, j < C → (w.cell? ⟨g, j, none⟩).isSome = true ∧ w.frozen? ⟨g, j, none⟩ = false
  cap : es.length ≤ C
theorem Both.of {w : World} {base g C : Nat} (h : w.ownsRow base 70 1 (.slice (some ⟨g, 0, none⟩) 0 C) 0 []) : Both w g C [] := by
  rcases h.2 with ⟨h1, _⟩ | ⟨g', cap, cur, h3, h4, h5, h6, h7, h8, h9⟩
  · cases h1
  · cases h3
    refine ⟨fun i c h => by simp at h, fun j hj => ⟨?_, by simp [World.frozen?, h5]⟩, Nat.zero_le _⟩
    simp only [World.cell?, h5]
    rw [Array.getElem?_eq_getElem (by omega)]; rfl
theorem Both.on {w w' : World} {g C : Nat} {es : List Nat} (h : Both w g C es) (hb : Below w.heap.size w w') : Both w' g C es := by
  refine ⟨h.br.later hb, fun j hj => ?_, h.cap⟩
  obtain ⟨h1, h2⟩ := h.room j hj
  obtain ⟨u, hu⟩ := Option.isSome_iff_exists.1 h1
  have hlt := World.block_lt_of_cell? _ _ hu
  have he := hb.block g hlt
  exact ⟨by rw [cell_later hb hu]; rfl, by rw [← h2]; simp [World.frozen?, he]⟩
theorem Both.put {w : World} {g C : Nat} {es : List Nat} (h : Both w g C es) (ns : List Nat) (hc : es.length + ns.length ≤ C) : Both (w.setCells g es.length (ns.map ptr)) g C (es ++ ns) := by
  refine ⟨fun i c hi => ?_, fun j hj => ⟨?_, ?_⟩, by simp; omega⟩
  · rw [Nat.zero_add]
    rw [List.getElem?_append] at hi
    by_cases hl : i < es.length
    · rw [if_pos hl] at hi
      rw [World.cell?_setCells_out g _ _ _ _ (fun _ _ => .inl hl)]
      have := h.br i c hi
      rwa [Nat.zero_add] at this
    · rw [if_neg hl] at hi
      have hlt := (List.getElem?_eq_some_iff.mp hi).1
      have := World.cell?_setCells_in g (ns.map ptr) es.length w (fun j hj => (h.room _ (by simp at hj; omega)).1) (i - es.length) (by simpa using hlt)
      rw [show es.length + (i - es.length) = i by omega] at this
      rw [this]
      have h2 := (List.getElem?_eq_some_iff.mp hi).2
      simp [ptr, h2]
  · by_cases hl : j < es.length ∨ es.length + ns.length ≤ j
    · rw [World.cell?_setCells_out g _ _ _ _ (fun _ _ => by simpa using hl)]
      exact (h.room j hj).1
    · have := World.cell?_setCells_in g (ns.map ptr) es.length w (fun j hj => (h.room _ (by simp at hj; omega)).1) (j - es.length) (by simp; omega)
      rw [show es.length + (j - es.length) = j by omega] at this
      rw [this]; rfl
  · rw [World.frozen?_setCells]; exact (h.room j hj).2

theorem step_append_room {P : Program} {ops : Array Oper} {o : Oper} {a : Act} {w : World} {K : Act → World → Prop} {Q : Exit → Act → World → Prop} {E : Prop}
    (hg : o.guard = none) (s x : Operand) (t : TypeId) (hop : o.op = Op.call { callee := Callee.builtin Builtin.append, args := #[s, x], argTypes := #[t, t] })
    (e : TypeId) (i : TypeInfo) (h1 : P.underlying t = some (.slice e)) (h2 : P.info? e = some i) (h4 : i.size = 1)
    (g n C : Nat) (hs : a.eval s = .slice (some ⟨g, 0, none⟩) n C) (ad : Addr) (m c : Nat) (news : List Value) (hx : a.eval x = .slice (some ad) m c) (hn : news.length = m) (hc : ∀ j u, news[j]? = some u → w.cell? (ad.add j) = some u) (h1c : ∀ u ∈ news, u.oneCell' = true)
    (hroom : n + m ≤ C) (hB : ∀ j, j < C → (w.cell? ⟨g, j, none⟩).isSome = true ∧ w.frozen? ⟨g, j, none⟩ = false)
    (hK : K (a.put o.dst (.slice (some ⟨g, 0, none⟩) (n + m) C)) (w.setCells g n news)) :
    if Region.wanted o (yielded ops a.tmps) = true then Oper.wp P o a w K Q else E := by
  have hw : Region.wanted o (yielded ops a.tmps) = true := by simp [Region.wanted, hg]
  rw [if_pos hw]
  have hrun := run_append_room_src (P := P) w t t o.type e i h1 h2 g 0 n C (.slice (some ad) m c) m news (Src.ofSlice w h1 ad m c news (by rw [hn, h4, Nat.mul_one]) hc h1c) hroom (fun j hj => by rw [h4]; exact (hB _ (by omega)).1) (fun j hj => by rw [h4]; exact (hB _ (by omega)).2)
  rw [h4, Nat.zero_add, Nat.mul_one] at hrun
  unfold Oper.wp
  simp [execOp, hop, resolve, invoke, builtin, hs, hx, hrun, Result.andThen]
  exact hK

theorem wpList_append_room {P : Program} {ops : Array Oper} {rest : List Oper} {o : Oper} {a : Act} {w : World} {Q : Exit → Act → World → Prop} (hg : o.guard = none) (s x : Operand) (t : TypeId) (hop : o.op = Op.call { callee := Callee.builtin Builtin.append, args := #[s, x], argTypes := #[t, t] })
    (e : TypeId) (i : TypeInfo) (h1 : P.underlying t = some (.slice e)) (h2 : P.info? e = some i) (h4 : i.size = 1)
    (g n C : Nat) (hs : a.eval s = .slice (some ⟨g, 0, none⟩) n C) (ad : Addr) (m c : Nat) (news : List Value) (hx : a.eval x = .slice (some ad) m c) (hn : news.length = m) (hc : ∀ j u, news[j]? = some u → w.cell? (ad.add j) = some u) (h1c : ∀ u ∈ news, u.oneCell' = true)
    (hroom : n + m ≤ C) (hB : ∀ j, j < C → (w.cell? ⟨g, j, none⟩).isSome = true ∧ w.frozen? ⟨g, j, none⟩ = false)
    (hK : wpList P ops Q rest (a.put o.dst (.slice (some ⟨g, 0, none⟩) (n + m) C)) (w.setCells g n news)) : wpList P ops Q (o :: rest) a w :=
  wpList_plain hg fun _ hK2 => by
    have hrun := run_append_room_src (P := P) w t t o.type e i h1 h2 g 0 n C (.slice (some ad) m c) m news (Src.ofSlice w h1 ad m c news (by rw [hn, h4, Nat.mul_one]) hc h1c) hroom (fun j hj => by rw [h4]; exact (hB _ (by omega)).1) (fun j hj => by rw [h4]; exact (hB _ (by omega)).2)
    rw [h4, Nat.zero_add, Nat.mul_one] at hrun
    unfold Oper.wp
    simp [execOp, hop, resolve, invoke, builtin, hs, hx, hrun, Result.andThen]
    exact hK2 _ _ hK

/-- A list that is still to be gone through. -/
structure Lst (g : Nat) (w : World) (k o cap : Nat) (cs : List Nat) : Prop where
  fits : cs.length ≤ cap
  most : cap ≤ maxLen
  br : BrAt w k o cs
  ne : k ≠ g
theorem Lst.on {g : Nat} {w w' : World} {k o cap : Nat} {cs : List Nat} (h : Lst g w k o cap cs) (hb : Below w.heap.size w w') : Lst g w' k o cap cs := ⟨h.fits, h.most, h.br.later hb, h.ne⟩
theorem BrAt.but {g : Nat} {w w' : World} {k o : Nat} {cs : List Nat} (h : BrAt w k o cs) (hb : But g w w') (hne : k ≠ g) : BrAt w' k o cs := fun i c h1 => by
  have := h i c h1
  exact (World.cell?_of_block (w := w) (a := ⟨k, o + i, none⟩) (hb.block k (World.block_lt_of_cell? _ _ this) hne)).trans this
theorem Lst.but {g : Nat} {w w' : World} {k o cap : Nat} {cs : List Nat} (h : Lst g w k o cap cs) (hb : But g w w') : Lst g w' k o cap cs := ⟨h.fits, h.most, h.br.but hb h.ne, h.ne⟩
theorem Lst.tail {g : Nat} {w : World} {k o cap c : Nat} {cs : List Nat} (h : Lst g w k o cap (c :: cs)) : Lst g w k (if cap = 1 then o else o + 1) (cap - 1) cs := by
  have h1 := h.fits
  have h2 := h.most
  simp at h1
  refine ⟨by omega, by omega, fun i d hd => ?_, h.ne⟩
  have := h.br (i + 1) d hd
  by_cases e : cap = 1
  · exfalso
    have : cs.length = 0 := by omega
    rw [List.length_eq_zero_iff.mp this] at hd; simp at hd
  · rw [if_neg e, show o + 1 + i = o + (i + 1) by omega]; exact this

/-- How far the two lists are gone through, and what is made. -/
structure MS (S : Nat → Prop) (w : World) (g C n1 n2 K : Nat) (c : List UInt8) (A : List (Grp ByteArray)) (cs ds es : List Nat) (a b d : List (Grp ByteArray)) (k0 o0 p0 k1 o1 p1 : Nat) (wr : World) : Prop where
  l0 : Lst g wr k0 o0 p0 cs
  l1 : Lst g wr k1 o1 p1 ds
  q0 : Kids (fun k => S k ∧ k ≠ g) n1 wr cs a
  q1 : Kids (fun k => S k ∧ k ≠ g) n2 wr ds b
  qd : Kids (fun k => S k ∧ k ≠ g) K wr es d
  bo : Both wr g C es
  cap : es.length + cs.length + ds.length ≤ C
  eq : d ++ mg a b = A
  g0 : GP c a
  g1 : GP c b
  sm : (flatG a).length + (flatG b).length ≤ 1000000
  bel : Below w.heap.size w wr
  hg : w.heap.size ≤ g ∧ g < wr.heap.size
section
variable {S : Nat → Prop} {w wr w' : World} {g C n1 n2 K : Nat} {c : List UInt8} {A : List (Grp ByteArray)} {cs ds es : List Nat} {a b d : List (Grp ByteArray)} {k0 o0 p0 k1 o1 p1 : Nat}
theorem MS.on (h : MS S w g C n1 n2 K c A cs ds es a b d k0 o0 p0 k1 o1 p1 wr) (hb : Below wr.heap.size wr w') : MS S w g C n1 n2 K c A cs ds es a b d k0 o0 p0 k1 o1 p1 w' :=
  ⟨h.l0.on hb, h.l1.on hb, h.q0.on hb, h.q1.on hb, h.qd.on hb, h.bo.on hb, h.cap, h.eq, h.g0, h.g1, h.sm, h.bel.trans (hb.mono h.bel.size), h.hg.1, Nat.lt_of_lt_of_le h.hg.2 hb.size⟩
theorem MS.kept (hb : But g wr w') : Kept (fun k => (S k ∧ k ≠ g) ∧ k < wr.heap.size) wr w' := fun k hk => hb.block k hk.2 hk.1.2
theorem Kids.but (h : Kids (fun k => S k ∧ k ≠ g) n1 wr cs a) (hb : But g wr w') : Kids (fun k => S k ∧ k ≠ g) n1 w' cs a := by
  have h1 : Kids (fun k => (S k ∧ k ≠ g) ∧ k < wr.heap.size) n1 wr cs a := h.weaken fun k h1 h2 => ⟨h1, h2⟩
  exact (h1.frame (MS.kept hb)).weaken fun k h1 _ => h1.1
theorem MS.bow (h : MS S w g C n1 n2 K c A cs ds es a b d k0 o0 p0 k1 o1 p1 wr) (hb : But g wr w') : Below w.heap.size w w' :=
  h.bel.trans ⟨hb.os, hb.tape, hb.output, hb.size, fun k hk => hb.block k (Nat.lt_of_lt_of_le hk h.bel.size) (by have := h.hg.1; omega)⟩
end

end Go.Proofs.Ytcgjppacnhmjlaa
