/- An index of the program beside the document's: what is done to both. -/
import Derived.Test.YtcgjppacnhmjlaaGreatRefU
import Derived.Test.YtcgjppacnhmjlaaGreatLawFacts
import Derived.RangeFuncOwn
set_option linter.unusedVariables false
set_option linter.unusedSimpArgs false
namespace Go.Proofs.YtcgjppacnhmjlaaGreat
open Go.RowKit

/-- From w to w' only blocks whose part is in R have turned; new blocks have parts of their own. -/
structure Moved (R : Nat → Prop) (ρ : Nat → Nat) (w : World) (ρ' : Nat → Nat) (w' : World) : Prop where
  os : w'.os = w.os
  tape : w'.tape = w.tape
  output : w'.output = w.output
  size : w.heap.size ≤ w'.heap.size
  agree : ∀ k, k < w.heap.size → ρ' k = ρ k
  fresh : ∀ k, w'.heap.size ≤ k → ρ' k = 0
  block : ∀ k, k < w.heap.size → ¬ R (ρ k) → w'.heap[k]? = w.heap[k]?
  oth : ∀ (k : Nat) (o : Obj), w.heap[k]? = some o → o.isCells = false → w'.heap[k]? = some o
theorem Moved.trans {R : Nat → Prop} {ρ ρ1 ρ2 : Nat → Nat} {w w1 w2 : World} (h : Moved R ρ w ρ1 w1) (k : Moved R ρ1 w1 ρ2 w2) : Moved R ρ w ρ2 w2 :=
  ⟨k.os.trans h.os, k.tape.trans h.tape, k.output.trans h.output, Nat.le_trans h.size k.size, fun i hi => (k.agree i (Nat.lt_of_lt_of_le hi h.size)).trans (h.agree i hi), k.fresh,
    fun i hi hR => (k.block i (Nat.lt_of_lt_of_le hi h.size) (by rw [h.agree i hi]; exact hR)).trans (h.block i hi hR), fun i o hi ho => k.oth i o (h.oth i o hi ho) ho⟩
theorem Moved.of_below {R : Nat → Prop} {ρ : Nat → Nat} {w w' : World} (hf : ∀ k, w.heap.size ≤ k → ρ k = 0) (h : Below w.heap.size w w') : Moved R ρ w ρ w' :=
  ⟨h.os, h.tape, h.output, h.size, fun _ _ => rfl, fun k hk => hf k (Nat.le_trans h.size hk), fun k hk _ => h.block k hk, fun k o hk _ => (h.block k (idx_lt hk)).trans hk⟩
theorem Moved.of_but {R : Nat → Prop} {ρ : Nat → Nat} {w w' : World} {x : Nat} (hf : ∀ k, w.heap.size ≤ k → ρ k = 0) (h : But x w w') (hx : R (ρ x)) (hc : ∀ o, w.heap[x]? = some o → o.isCells = true) : Moved R ρ w ρ w' :=
  ⟨h.os, h.tape, h.output, h.size, fun _ _ => rfl, fun k hk => hf k (Nat.le_trans h.size hk), fun k hk hR => h.block k hk (fun e => hR (e ▸ hx)), fun k o hk ho => (h.block k (idx_lt hk) (fun e => by subst e; rw [hc o hk] at ho; cases ho)).trans hk⟩
theorem IndexAt.moved {R : Nat → Prop} {ρ ρ' : Nat → Nat} {w w' : World} {y : Nat} {l : List KV} (h : IndexAt (fun k => ρ k = 0) w y l) (hm : Moved R ρ w ρ' w') (h0 : ¬ R 0) (hy : ¬ R (ρ y)) : IndexAt (fun k => ρ' k = 0) w' y l := by
  obtain ⟨n, tp, hx, hT⟩ := h.tree
  have hlt := idx_lt hx
  refine ⟨⟨n, tp, (hm.block y hlt hy).trans hx, ?_⟩, fun e => h.out ((hm.agree y hlt).symm.trans e), h.few⟩
  rcases hT with hT | ⟨t, h1, h2⟩
  · exact .inl hT
  · refine .inr ⟨t, h1, ?_⟩
    have h3 : RepN (fun k => ρ k = 0 ∧ k < w.heap.size) n w t l := h2.weaken (fun k a b => ⟨a, b⟩)
    exact h3.keep (fun k hk => hm.block k hk.2 (by rw [hk.1]; exact h0)) (fun k hk _ => (hm.agree k hk.2).trans hk.1) (Nat.le_refl _)
theorem RefAt.moved {R : Nat → Prop} {ρ ρ' : Nat → Nat} {w w' : World} {r : Nat} {av : Value} {l : List KV} (h : RefAt w r av l) (hm : Moved R ρ w ρ' w') (hr : ¬ R (ρ r)) (hg : ∀ g, av.ownBlock = some g → ¬ R (ρ g)) : RefAt w' r av l :=
  ⟨(hm.block r (idx_lt h.blk) hr).trans h.blk, ownsRow_on h.row fun g e => hm.block g (h.row.lt g e).2 (hg g e), h.out, h.srt, h.short, h.few⟩

/-- An index x and the document's r, with the same pairs; their blocks are of the part i. -/
structure Twin (ρ : Nat → Nat) (i : Nat) (w : World) (x r : Nat) (l : List KV) : Prop where
  ix : IndexAt (fun k => ρ k = 0) w x l
  px : ρ x = 3 * i + 1
  pr : ρ r = 3 * i + 2
  ref : ∃ av, RefAt w r av l ∧ ∀ g, av.ownBlock = some g → ρ g = 3 * i + 3
def Part (i : Nat) (c : Nat) : Prop := c = 3 * i + 1 ∨ c = 3 * i + 2 ∨ c = 3 * i + 3
theorem Twin.moved {R : Nat → Prop} {ρ ρ' : Nat → Nat} {i : Nat} {w w' : World} {x r : Nat} {l : List KV} (h : Twin ρ i w x r l) (hm : Moved R ρ w ρ' w') (h0 : ¬ R 0) (hR : ∀ c, Part i c → ¬ R c) : Twin ρ' i w' x r l := by
  obtain ⟨av, h1, h2⟩ := h.ref
  refine ⟨h.ix.moved hm h0 (hR _ (by rw [h.px]; exact .inl rfl)), (hm.agree x h.ix.lt).trans h.px, (hm.agree r (idx_lt h1.blk)).trans h.pr, av, h1.moved hm (hR _ (by rw [h.pr]; exact .inr (.inl rfl))) (fun g e => hR _ (by rw [h2 g e]; exact .inr (.inr rfl))), fun g e => ?_⟩
  exact (hm.agree g (h1.row.lt g e).2).trans (h2 g e)
theorem Twin.on {ρ : Nat → Nat} {i : Nat} {w w' : World} {x r : Nat} {l : List KV} (h : Twin ρ i w x r l) (hb : Below w.heap.size w w') (hf : ∀ k, w.heap.size ≤ k → ρ k = 0) : Twin ρ i w' x r l :=
  h.moved (R := fun _ => False) (Moved.of_below hf hb) (fun h => h) (fun _ _ h => h)

/-- Behind Put of the document's index. -/
theorem moved_ref {ρ : Nat → Nat} {i : Nat} {w w' : World} {r : Nat} {av av' : Value} (hf : ∀ k, w.heap.size ≤ k → ρ k = 0) (hr : ρ r = 3 * i + 2) (hg : ∀ g, av.ownBlock = some g → ρ g = 3 * i + 3) (hb : ButR r av.ownBlock w w') (hcr : ∀ o, w.heap[r]? = some o → o.isCells = true) (hcg : ∀ g o, av.ownBlock = some g → w.heap[g]? = some o → o.isCells = true) (hn : av'.ownBlock = av.ownBlock ∨ ∃ g, av'.ownBlock = some g ∧ w.heap.size ≤ g) (hlt : ∀ g, av'.ownBlock = some g → g < w'.heap.size) :
    ∃ ρ', Moved (Part i) ρ w ρ' w' ∧ ∀ g, av'.ownBlock = some g → ρ' g = 3 * i + 3 := by
  have hblk : ∀ k, k < w.heap.size → ¬ Part i (ρ k) → w'.heap[k]? = w.heap[k]? := fun k hk hR => hb.block k hk (fun e => hR (by rw [e, hr]; exact .inr (.inl rfl))) (fun e => hR (by rw [hg k e.symm]; exact .inr (.inr rfl)))
  have hoth : ∀ (k : Nat) (o : Obj), w.heap[k]? = some o → o.isCells = false → w'.heap[k]? = some o := fun k o hk ho => (hb.block k (idx_lt hk) (fun e => by subst e; rw [hcr o hk] at ho; cases ho) (fun e => by rw [hcg k o e.symm hk] at ho; cases ho)).trans hk
  rcases hn with hn | ⟨g, hn, hge⟩
  · exact ⟨ρ, ⟨hb.os, hb.tape, hb.output, hb.size, fun _ _ => rfl, fun k hk => hf k (Nat.le_trans hb.size hk), hblk, hoth⟩, fun g e => hg g (hn ▸ e)⟩
  · refine ⟨fun k => if k = g then 3 * i + 3 else ρ k, ⟨hb.os, hb.tape, hb.output, hb.size, fun k hk => if_neg (by omega), fun k hk => ?_, hblk, hoth⟩, fun g' e => ?_⟩
    · have := hlt g hn
      show (if k = g then 3 * i + 3 else ρ k) = 0
      rw [if_neg (by omega)]
      exact hf k (Nat.le_trans hb.size hk)
    · rw [hn] at e; cases e; exact if_pos rfl
theorem part0 (i : Nat) : ¬ Part i 0 := by unfold Part; omega

/-- What Put answers, by the document. -/
def putV (key : ByteArray) (l : List KV) : Value := if 64 < key.size then .tuple #[.int .i64 0, .bool false, .int .i64 1] else match lk key.data.toList l with
  | some u => .tuple #[.int .i64 u, .bool true, .int .i64 0]
  | none => if 3000 ≤ l.length then .tuple #[.int .i64 0, .bool false, .int .i64 2] else .tuple #[.int .i64 0, .bool false, .int .i64 0]
def putL (key : ByteArray) (v : Int) (l : List KV) : List KV := if 64 < key.size then l else if (lk key.data.toList l).isSome = true ∨ l.length < 3000 then ins key.data.toList v l else l
theorem put_one {key : ByteArray} {v : Int} {l : List KV} (h : 64 < key.size) : putV key l = .tuple #[.int .i64 0, .bool false, .int .i64 1] ∧ putL key v l = l := by simp [putV, putL, h]
theorem put_two {key : ByteArray} {v u : Int} {l : List KV} (h : ¬ 64 < key.size) (hu : lk key.data.toList l = some u) : putV key l = .tuple #[.int .i64 u, .bool true, .int .i64 0] ∧ putL key v l = ins key.data.toList v l := by simp [putV, putL, h, hu]
theorem put_three {key : ByteArray} {v : Int} {l : List KV} (h : ¬ 64 < key.size) (hu : lk key.data.toList l = none) (h2 : 3000 ≤ l.length) : putV key l = .tuple #[.int .i64 0, .bool false, .int .i64 2] ∧ putL key v l = l := by
  have h3 : ¬ l.length < 3000 := by omega
  simp [putV, putL, h, hu, h2, h3]
theorem put_four {key : ByteArray} {v : Int} {l : List KV} (h : ¬ 64 < key.size) (hu : lk key.data.toList l = none) (h2 : ¬ 3000 ≤ l.length) : putV key l = .tuple #[.int .i64 0, .bool false, .int .i64 0] ∧ putL key v l = ins key.data.toList v l := by
  have h3 : l.length < 3000 := by omega
  simp [putV, putL, h, hu, h2, h3]
theorem iput_any {S : Nat → Prop} {w : World} {x : Nat} {l : List KV} {key : ByteArray} {v : Int} (hS : Open S w) (h : IndexAt S w x l) (hk : key.size ≤ 9223372036854775807) :
    Calls Tryz.prog 31 #[.pointer (some ⟨x, 0, none⟩), .string key, .int .i64 v] w fun e w' => e = .returned (putV key l) ∧ IndexAt S w' x (putL key v l) ∧ But x w w' := by
  by_cases h1 : 64 < key.size
  · rw [(put_one (v := v) (l := l) h1).1, (put_one (v := v) (l := l) h1).2]
    exact (put_long h1 hk).mono fun e w' he => ⟨he.1, by rw [he.2]; exact h, by rw [he.2]; exact But.of_below (Below.refl _ _)⟩
  · cases hu : lk key.data.toList l with
    | some u =>
      rw [(put_two (v := v) h1 hu).1, (put_two (v := v) h1 hu).2]
      exact (put_old hS h (by omega) hu).mono fun e w' he => ⟨by rw [he.1, hu]; rfl, he.2⟩
    | none =>
      by_cases h2 : 3000 ≤ l.length
      · rw [(put_three (v := v) h1 hu h2).1, (put_three (v := v) h1 hu h2).2]
        exact (put_full h (by omega) hu h2).mono fun e w' he => ⟨he.1, h.on he.2, But.of_below he.2⟩
      · rw [(put_four (v := v) h1 hu h2).1, (put_four (v := v) h1 hu h2).2]
        exact (put_new hS h (by omega) hu (by omega)).mono fun e w' he => ⟨by rw [he.1, hu]; rfl, he.2⟩
theorem drewN_butR {r : Nat} {g : Option Nat} (w : World) (n : Nat) : ButR r g w (w.drewN n) := ⟨rfl, rfl, rfl, Nat.le_refl _, fun _ _ _ _ => rfl⟩
theorem below_drewN (w : World) (n : Nat) : Below w.heap.size w (w.drewN n) := ⟨rfl, rfl, rfl, Nat.le_refl _, fun _ _ => rfl⟩
theorem rput_any {w : World} {r : Nat} {av : Value} {l : List KV} {key : ByteArray} {v : Int} (h : RefAt w r av l) (hk : key.size ≤ 9223372036854775807) :
    Calls Tryz.prog 32 #[.pointer (some ⟨r, 0, none⟩), .string key, .int .i64 v] w fun e w' => e = .returned (putV key l) ∧ ∃ av', RefAt w' r av' (putL key v l) ∧ ButR r av.ownBlock w w' ∧ (av'.ownBlock = av.ownBlock ∨ ∃ g, av'.ownBlock = some g ∧ w.heap.size ≤ g) := by
  by_cases h1 : 64 < key.size
  · rw [(put_one (v := v) (l := l) h1).1, (put_one (v := v) (l := l) h1).2]
    exact (rput_long key v h1 hk).mono fun e w' he => ⟨he.1, av, by rw [he.2]; exact h, by rw [he.2]; exact drewN_butR w 0, .inl rfl⟩
  · cases hu : lk key.data.toList l with
    | some u =>
      rw [(put_two (v := v) h1 hu).1, (put_two (v := v) h1 hu).2]
      exact rput_old h key v (by omega) hu
    | none =>
      by_cases h2 : 3000 ≤ l.length
      · rw [(put_three (v := v) h1 hu h2).1, (put_three (v := v) h1 hu h2).2]
        exact (rput_full h key v (by omega) hu h2).mono fun e w' he => by
          obtain ⟨h3, n, rfl⟩ := he
          exact ⟨h3, av, h.on (below_drewN w n), drewN_butR w n, .inl rfl⟩
      · rw [(put_four (v := v) h1 hu h2).1, (put_four (v := v) h1 hu h2).2]
        exact rput_new h key v (by omega) hu (by omega)

theorem rdel_any {w : World} {r : Nat} {av : Value} {l : List KV} {key : ByteArray} (h : RefAt w r av l) (hk : key.size ≤ 9223372036854775807) :
    Calls Tryz.prog 56 #[.pointer (some ⟨r, 0, none⟩), .string key] w fun e w' => e = .returned (.tuple #[.int .i64 (valOr (lk (kof key) l)), .bool (lk (kof key) l).isSome]) ∧ ∃ av', RefAt w' r av' (del (kof key) l) ∧ ButR r av.ownBlock w w' ∧ (av'.ownBlock = av.ownBlock ∨ ∃ g, av'.ownBlock = some g ∧ w.heap.size ≤ g) := by
  unfold kof
  cases hu : lk key.data.toList l with
  | none =>
    refine (rdel_none h key hk hu).mono ?_
    rintro e w' ⟨h3, n, rfl⟩
    exact ⟨h3, av, by rw [del_none hu]; exact h.on (below_drewN w n), drewN_butR w n, .inl rfl⟩
  | some u => exact rdel_some h key hk hu

theorem IndexAt.isC {S : Nat → Prop} {w : World} {x : Nat} {l : List KV} (h : IndexAt S w x l) : ∀ o, w.heap[x]? = some o → o.isCells = true := fun o ho => by
  obtain ⟨n, tp, hx, _⟩ := h.tree
  rw [hx] at ho; cases ho; rfl
theorem RefAt.isC {w : World} {r : Nat} {av : Value} {l : List KV} (h : RefAt w r av l) : ∀ o, w.heap[r]? = some o → o.isCells = true := fun o ho => by
  rw [h.blk] at ho; cases ho; rfl
theorem ownsRow_isC {w : World} {base : Nat} {e : TypeId} {size n : Nat} {v : Value} {xs : List Value} (h : w.ownsRow base e size v n xs) : ∀ g o, v.ownBlock = some g → w.heap[g]? = some o → o.isCells = true := fun g o hg ho => by
  obtain ⟨h0, h1 | ⟨g', cap', cur, h1, h2, h3, h4⟩⟩ := h
  · rw [h1.1] at hg; cases hg
  · rw [h1] at hg
    have : g' = g := by simpa [Value.ownBlock] using hg
    subst this
    rw [h3] at ho; cases ho; rfl
/-- What is done to both of a twin. -/
theorem Twin.both {ρ : Nat → Nat} {i : Nat} {w w1 w2 : World} {x r : Nat} {l' : List KV} {av av' : Value} (hf : ∀ k, w.heap.size ≤ k → ρ k = 0) (hpx : ρ x = 3 * i + 1) (hpr : ρ r = 3 * i + 2) (hg : ∀ g, av.ownBlock = some g → ρ g = 3 * i + 3) (hxl : x < w.heap.size) (hrl : r < w.heap.size)
    (hcx : ∀ o, w.heap[x]? = some o → o.isCells = true) (hcr : ∀ o, w1.heap[r]? = some o → o.isCells = true) (hcg : ∀ g o, av.ownBlock = some g → w1.heap[g]? = some o → o.isCells = true) (hb : But x w w1) (hix : IndexAt (fun k => ρ k = 0) w1 x l') (hR : RefAt w2 r av' l') (hbr : ButR r av.ownBlock w1 w2) (hn : av'.ownBlock = av.ownBlock ∨ ∃ g, av'.ownBlock = some g ∧ w1.heap.size ≤ g) : ∃ ρ', Moved (Part i) ρ w ρ' w2 ∧ Twin ρ' i w2 x r l' := by
  have m1 : Moved (Part i) ρ w ρ w1 := Moved.of_but hf hb (by rw [hpx]; exact .inl rfl) hcx
  obtain ⟨ρ', m2, hg'⟩ := moved_ref (i := i) m1.fresh hpr hg hbr hcr hcg hn (fun g e => (hR.row.lt g e).2)
  refine ⟨ρ', m1.trans m2, ?_⟩
  have m2' : Moved (fun c => c = 3 * i + 2 ∨ c = 3 * i + 3) ρ w1 ρ' w2 := ⟨m2.os, m2.tape, m2.output, m2.size, m2.agree, m2.fresh, fun k hk hR => hbr.block k hk (fun e => hR (by rw [e, hpr]; exact .inl rfl)) (fun e => hR (by rw [hg k e.symm]; exact .inr rfl)), m2.oth⟩
  exact ⟨hix.moved m2' (by omega) (by rw [hpx]; omega), (m2.agree x (Nat.lt_of_lt_of_le hxl hb.size)).trans hpx, (m2.agree r (Nat.lt_of_lt_of_le hrl hb.size)).trans hpr, av', hR, hg'⟩

end Go.Proofs.YtcgjppacnhmjlaaGreat
