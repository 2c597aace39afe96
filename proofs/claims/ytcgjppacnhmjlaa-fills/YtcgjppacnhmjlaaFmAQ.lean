/- Own texts: PLeafD, PLeafE. -/
import Derived.Test.YtcgjppacnhmjlaaFmAP
import Derived.Deep.RegionHeld3
import Derived.Deep.RegionLawGrows
import Derived.Deep.AppendSrc
import Derived.Deep.AppendLies
import Derived.Deep.DrawnRows

section
set_option linter.unusedVariables false
set_option linter.unusedSimpArgs false
set_option linter.unusedSectionVars false
set_option linter.unusedVariables false
set_option linter.unusedSimpArgs false
namespace Go.Proofs.Ytcgjppacnhmjlaa
open Go.RowKit
attribute [local go_sem ↓] Go.wp_at_zero Go.wp_at_succ

theorem infoP : (Try.prog.info? 93).map (fun i => (i.zero, i.size, i.bytes)) = some (some (.pointer none), 1, 8) := by kernel_rfl

def ptr (c : Nat) : Value := .pointer (some ⟨c, 0, none⟩)

theorem olds_of {w wx : World} {k o : Nat} {cs : List Nat} (h : BrAt w k o cs) (hb : Below w.heap.size w wx) (n : Nat) :
    ∀ b, some (⟨k, o, none⟩ : Addr) = some b → ∀ j u, ((cs.take n).map ptr)[j]? = some u → wx.cell? (b.add j) = some u := by
  intro b hbb j u hj
  obtain rfl := Option.some.inj hbb
  simp only [List.getElem?_map, Option.map_eq_some_iff] at hj
  obtain ⟨c, hc, rfl⟩ := hj
  have : cs[j]? = some c := by
    rw [List.getElem?_take] at hc; split at hc
    · exact hc
    · cases hc
  rw [Addr.add_lit]; exact cell_later hb (h j c this)
theorem news_of {w wx : World} {k o : Nat} {cs : List Nat} (h : BrAt w k o cs) (hb : Below w.heap.size w wx) (n : Nat) :
    ∀ j u, ((cs.drop n).map ptr)[j]? = some u → wx.cell? ((⟨k, o + n, none⟩ : Addr).add j) = some u := by
  intro j u hj
  simp only [List.getElem?_map, Option.map_eq_some_iff] at hj
  obtain ⟨c, hc, rfl⟩ := hj
  rw [List.getElem?_drop] at hc
  have := cell_later hb (h _ c hc)
  rw [Addr.add_lit, Nat.add_assoc]; exact this
theorem one_ptr (l : List Nat) : ∀ u ∈ l.map ptr, u.oneCell' = true := by
  intro u hu; obtain ⟨c, _, rfl⟩ := List.mem_map.1 hu; rfl

theorem tail_src {w wx : World} {k o cap : Nat} {cs : List Nat} (h : BrAt w k o cs) (hb : Below w.heap.size w wx) (n : Nat) (hc : cs.length ≤ cap) :
    ∃ ad, (if cap = n then some (⟨k, o, none⟩ : Addr) else some ⟨k, o + n, none⟩) = some ad ∧ ∀ j u, ((cs.drop n).map ptr)[j]? = some u → wx.cell? (ad.add j) = some u := by
  by_cases e : cap = n
  · refine ⟨_, if_pos e, fun j u hj => ?_⟩
    rw [List.drop_eq_nil_of_le (by omega)] at hj; simp at hj
  · exact ⟨_, if_neg e, news_of h hb n⟩
theorem below_built {w w1 : World} {ob : Obj} (hg : ((w.alloc ob).drew).grownBy w1 none) : Below w.heap.size w w1 :=
  Below.grown (((Below.refl _ _).alloc (Nat.le_refl _) _).drew) hg (by show w.heap.size ≤ (w.alloc ob).heap.size; simp) (fun k h => by cases h)
theorem ownsRow_base {w : World} {base base' : Nat} {e : TypeId} {size : Nat} {v : Value} {n : Nat} {xs : List Value} (h : w.ownsRow base e size v n xs) (hb : base' ≤ base) : w.ownsRow base' e size v n xs := by
  refine ⟨h.1, ?_⟩
  rcases h.2 with h2 | ⟨g, cap, cur, h3, h4, h5⟩
  · exact .inl h2
  · exact .inr ⟨g, cap, cur, h3, Nat.le_trans hb h4, h5⟩
theorem size_built (w : World) (ob : Obj) : w.heap.size ≤ ((w.alloc ob).drew).heap.size := by show w.heap.size ≤ (w.alloc ob).heap.size; simp

/-- append of what lies behind an address, maybe nothing, onto a row of the call's own, at a step of a region that draws. -/
theorem step_append_tail {P : Program} {ops : Array Oper} {o : Oper} {a : Act} {w : World} {K : Act → World → Prop} {Q : Exit → Act → World → Prop} {E : Prop}
    (hg : o.guard = none) (s x : Operand) (t : TypeId) (hop : o.op = Op.call { callee := Callee.builtin Builtin.append, args := #[s, x], argTypes := #[t, t] })
    (base : Nat) (e : TypeId) (i : TypeInfo) (z : Value) (size bytes : Nat) (h1 : P.underlying t = some (.slice e)) (h2 : P.info? e = some i) (h3 : i.zero = some z) (h4 : i.size = size) (h5 : i.bytes = bytes) (h6 : z.cells.size = size) (h7 : 0 < size)
    (v : Value) (n : Nat) (xs : List Value) (hs : a.eval s = v) (hown : w.ownsRow base e size v n xs)
    (src : Option Addr) (m c : Nat) (news : List Value) (hx : a.eval x = .slice src m c) (hn : news.length = m * size) (hc : ∃ ad, src = some ad ∧ ∀ j u, news[j]? = some u → w.cell? (ad.add j) = some u) (h1c : ∀ u ∈ news, u.oneCell' = true)
    (b1 : n + m ≤ maxLen) (b2 : (n + m) * bytes ≤ 140737488355328) (hbase : base ≤ w.heap.size)
    (hK : ∀ v' w', w'.ownsRow base e size v' (n + m) (xs ++ news) → w.grownBy w' v.ownBlock → K (a.put o.dst v') w') :
    if Region.wanted o (yielded ops a.tmps) = true then Oper.wp P o a w K Q else E := by
  have hw : Region.wanted o (yielded ops a.tmps) = true := by simp [Region.wanted, hg]
  rw [if_pos hw]
  obtain ⟨ad, rfl, hc⟩ := hc
  obtain ⟨v', w', hrun, r1, r2, _⟩ := run_append_own (P := P) w base t o.type e i z size bytes h1 h2 h3 h4 h5 h6 h7 v n xs hown ad m c news hn hc h1c b1 b2 hbase
  unfold Oper.wp
  simp [execOp, hop, resolve, invoke, builtin, hs, hx, hrun, Result.andThen]
  exact hK v' w' r1 r2

/-- append of nil onto a row of the call's own that has something. -/
theorem step_append_none {P : Program} {ops : Array Oper} {o : Oper} {a : Act} {w : World} {K : Act → World → Prop} {Q : Exit → Act → World → Prop} {E : Prop}
    (hg : o.guard = none) (s x : Operand) (t : TypeId) (hop : o.op = Op.call { callee := Callee.builtin Builtin.append, args := #[s, x], argTypes := #[t, t] })
    (base : Nat) (e : TypeId) (i : TypeInfo) (size : Nat) (h1 : P.underlying t = some (.slice e)) (h2 : P.info? e = some i)
    (v : Value) (n : Nat) (xs : List Value) (hs : a.eval s = v) (hown : w.ownsRow base e size v n xs) (hn : 0 < n) (hx : a.eval x = .slice none 0 0)
    (hK : K (a.put o.dst v) w) :
    if Region.wanted o (yielded ops a.tmps) = true then Oper.wp P o a w K Q else E := by
  have hw : Region.wanted o (yielded ops a.tmps) = true := by simp [Region.wanted, hg]
  rw [if_pos hw]
  rcases hown.2 with ⟨_, h0⟩ | ⟨g, cap, cur, rfl, _, _, hcap, _⟩
  · omega
  · have hrun := run_append_room_src (P := P) w t t o.type e i h1 h2 g 0 n cap (.slice none 0 0) 0 [] (Src.ofNil w h1 0) (by omega) (fun j hj => by simp at hj) (fun j hj => by simp at hj)
    have hset : w.setCells g (0 + n * i.size) [] = w := rfl
    rw [hset, Nat.add_zero] at hrun
    unfold Oper.wp
    simp [execOp, hop, resolve, invoke, builtin, hs, hx, hrun, Result.andThen]
    exact hK

/-- A row of branches that lies in new memory. -/
structure NewRow (w w' : World) (g c : Nat) (cs : List Nat) : Prop where
  lo : w.heap.size ≤ g
  cap : cs.length ≤ c
  most : c ≤ maxLen
  br : BrAt w' g 0 cs
  below : Below w.heap.size w w'
theorem ownBlock_ge {w : World} {base : Nat} {e : TypeId} {size : Nat} {v : Value} {n : Nat} {xs : List Value} (h : w.ownsRow base e size v n xs) {k : Nat} (hk : v.ownBlock = some k) : base ≤ k := by
  rcases h.2 with ⟨rfl, _⟩ | ⟨g, cap, cur, rfl, h4, _⟩
  · cases hk
  · cases hk; exact h4
theorem newRow_of {w w2 : World} {base : Nat} {e : TypeId} {v : Value} {n : Nat} {xs : List Value} {cs : List Nat} (h : w2.ownsRow base e 1 v n xs) (hbase : w.heap.size ≤ base) (hxs : xs = cs.map ptr) (hn : n = cs.length) (h0 : 0 < n) (hb : Below w.heap.size w w2) :
    ∃ g c, v = .slice (some ⟨g, 0, none⟩) cs.length c ∧ NewRow w w2 g c cs := by
  subst hn; subst hxs
  rcases h.2 with ⟨_, h2⟩ | ⟨g, cap, cur, h3, h4, h5, h6, h7, h8, h9⟩
  · omega
  · refine ⟨g, cap, h3, Nat.le_trans hbase h4, h6, h7, fun i c hc => ?_, hb⟩
    have hi : i < cs.length := (List.getElem?_eq_some_iff.mp hc).1
    have h10 : cur.toList[i]? = some (ptr c) := by
      have : (cur.toList.take (cs.length * 1))[i]? = some (ptr c) := by rw [h9, List.getElem?_map, hc]; rfl
      rwa [List.getElem?_take, if_pos (by omega)] at this
    simp only [World.cell?, h5, Nat.zero_add]
    rw [← Array.getElem?_toList, h10]; rfl
theorem below_two {w w1 w2 : World} {ob : Obj} {base : Nat} {e : TypeId} {size n : Nat} {v : Value} {xs : List Value} (hg : ((w.alloc ob).drew).grownBy w1 none) (ho : w1.ownsRow base e size v n xs) (hbase : w.heap.size ≤ base) (hg2 : w1.grownBy w2 v.ownBlock) : Below w.heap.size w w2 :=
  Below.grown (below_built hg) hg2 (below_built hg).size (fun _ h => Nat.le_trans hbase (ownBlock_ge ho h))

set_option maxRecDepth 100000 in
set_option maxHeartbeats 400000 in
theorem inserted_some (k o cap at' b : Nat) (cs : List Nat) (w : World) (hb : BrAt w k o cs) (hcap : cs.length ≤ cap) (hlen : cs.length ≤ 256) (hat : at' ≤ cs.length) (hcap2 : cap ≤ maxLen) :
    Calls Try.prog 104 #[.slice (some ⟨k, o, none⟩) cs.length cap, .int .i64 at', .pointer (some ⟨b, 0, none⟩)] w fun e w' =>
      ∃ g c, e = .returned (.slice (some ⟨g, 0, none⟩) (cs.take at' ++ b :: cs.drop at').length c) ∧ NewRow w w' g c (cs.take at' ++ b :: cs.drop at') := by
  have HL : Hid ((cs.take at' ++ b :: cs.drop at').length = cs.length + 1) := by show _ = _; simp; omega
  generalize hcs' : cs.take at' ++ b :: cs.drop at' = cs' at HL ⊢
  have HC : Hid (cs.take at' ++ b :: cs.drop at' = cs') := hcs'
  clear hcs'
  unfold maxLen at hcap2
  obtain ⟨i0, hi0, hz0, hz1, hz2⟩ := info_parts infoP
  have h1 : (0 : Int) ≤ (at' : Int) := Int.natCast_nonneg _
  have h2 : (at' : Int) ≤ (cs.length : Int) := by omega
  have h3 : (at' : Int) ≤ (cap : Int) := by omega
  have h4 : (cs.length : Int) ≤ (cap : Int) := by omega
  have HB : Hid (BrAt w k o cs) := hb
  clear hb
  go_enter Try.func104, Try.ntmps104
  go_wp2_with fail
  go_region_held3 (fun _ => True) (trivial) (first
    | (refine step_append_grows (by rfl) (.tmp 10) (.tmp 12) 101 ?_ 93 i0 (.pointer none) 1 8 Try.underlying101 hi0 hz0 hz1 hz2 rfl (by decide) (some ⟨k, o, none⟩) at' at' ((cs.take at').map ptr) (by rfl) (fun h => by cases h) (by simp; omega) (olds_of HB.out (((Below.refl _ _).alloc (Nat.le_refl _) _).drew) at')
        ⟨w.heap.size, 0, none⟩ 1 1 [ptr b] (by rfl) (by rfl) (World.news_of_block (cs := #[ptr b]) (t := 93) (fr := (0, 0)) (heap_alloc_new w _)) (by simp [Value.oneCell', ptr]) (by omega) (by unfold maxLen; omega) (by omega) ?_; rfl; intro v1 w1 hown1 hgrow1)
    | (refine step_append_tail (by rfl) (.tmp 13) (.tmp 16) 101 ?_ _ 93 i0 (.pointer none) 1 8 Try.underlying101 hi0 hz0 hz1 hz2 rfl (by decide) v1 (at' + 1) _ (by rfl) hown1 (if cap = at' then some ⟨k, o, none⟩ else some ⟨k, o + at', none⟩) (cs.length - at') (cap - at') ((cs.drop at').map ptr) (by rfl) (by simp) (tail_src HB.out (below_built hgrow1) at' hcap) (one_ptr _) (by unfold maxLen; omega) (by omega) hgrow1.size ?_; rfl; intro v2 w2 hown2 hgrow2))
  go_wp2
  all_goals
    go_ret
    obtain ⟨g, c, hv, hN⟩ := newRow_of (cs := cs') hown2 (size_built w _) (by rw [← HC.out]; simp) (by rw [HL.out]; omega) (by omega) (below_two hgrow1 hown1 (size_built w _) hgrow2)
    exact ⟨g, c, by show Ending.returned v2 = _; rw [hv], hN⟩

set_option maxRecDepth 100000 in
set_option maxHeartbeats 400000 in
theorem inserted_nil (b : Nat) (w : World) :
    Calls Try.prog 104 #[.slice none 0 0, .int .i64 0, .pointer (some ⟨b, 0, none⟩)] w fun e w' =>
      ∃ g c, e = .returned (.slice (some ⟨g, 0, none⟩) [b].length c) ∧ NewRow w w' g c [b] := by
  obtain ⟨i0, hi0, hz0, hz1, hz2⟩ := info_parts infoP
  go_enter Try.func104, Try.ntmps104
  go_wp2_with fail
  go_region_held3 (fun _ => True) (trivial) (first
    | (refine step_append_grows (by rfl) (.tmp 10) (.tmp 12) 101 ?_ 93 i0 (.pointer none) 1 8 Try.underlying101 hi0 hz0 hz1 hz2 rfl (by decide) none 0 0 [] (by rfl) (fun h => ⟨rfl, rfl⟩) (by rfl) (fun b h => by cases h)
        ⟨w.heap.size, 0, none⟩ 1 1 [ptr b] (by rfl) (by rfl) (World.news_of_block (cs := #[ptr b]) (t := 93) (fr := (0, 0)) (heap_alloc_new w _)) (by simp [Value.oneCell', ptr]) (by omega) (by decide) (by omega) ?_; rfl; intro v1 w1 hown1 hgrow1)
    | (refine step_append_none (by rfl) (.tmp 13) (.tmp 16) 101 ?_ _ 93 i0 1 Try.underlying101 hi0 v1 1 _ (by rfl) hown1 (by decide) (by rfl) ?_; rfl))
  go_wp2
  go_ret
  obtain ⟨g, c, hv, hN⟩ := newRow_of (cs := [b]) hown1 (size_built w _) (by simp) (by simp) (by omega) (below_built hgrow1)
  exact ⟨g, c, by show Ending.returned v1 = _; rw [hv]; rfl, hN⟩

end Go.Proofs.Ytcgjppacnhmjlaa
end

section
set_option linter.unusedVariables false
set_option linter.unusedSimpArgs false
set_option linter.unusedSectionVars false
set_option linter.unusedVariables false
set_option linter.unusedSimpArgs false
namespace Go.Proofs.Ytcgjppacnhmjlaa
open Go.RowKit
attribute [local go_sem ↓] Go.wp_at_zero Go.wp_at_succ

set_option maxRecDepth 100000 in
set_option maxHeartbeats 400000 in
theorem replaced_some (k o cap at' b : Nat) (cs : List Nat) (w : World) (hb : BrAt w k o cs) (hcap : cs.length ≤ cap) (hlen : cs.length ≤ 256) (hat : at' < cs.length) (hcap2 : cap ≤ maxLen) :
    Calls Try.prog 105 #[.slice (some ⟨k, o, none⟩) cs.length cap, .int .i64 at', .pointer (some ⟨b, 0, none⟩)] w fun e w' =>
      ∃ g c, e = .returned (.slice (some ⟨g, 0, none⟩) (cs.take at' ++ b :: cs.drop (at' + 1)).length c) ∧ NewRow w w' g c (cs.take at' ++ b :: cs.drop (at' + 1)) := by
  have HL : Hid ((cs.take at' ++ b :: cs.drop (at' + 1)).length = cs.length) := by show _ = _; simp; omega
  generalize hcs' : cs.take at' ++ b :: cs.drop (at' + 1) = cs' at HL ⊢
  have HC : Hid (cs.take at' ++ b :: cs.drop (at' + 1) = cs') := hcs'
  clear hcs'
  unfold maxLen at hcap2
  obtain ⟨i0, hi0, hz0, hz1, hz2⟩ := info_parts infoP
  have h1 : (0 : Int) ≤ (at' : Int) := Int.natCast_nonneg _
  have h2 : (at' : Int) ≤ (cs.length : Int) := by omega
  have h3 : (at' : Int) ≤ (cap : Int) := by omega
  have h5 : (at' : Int) + 1 ≤ (cs.length : Int) := by omega
  have hwr : IntKind.i64.wrap ((at' : Int) + 1) = (at' : Int) + 1 := by rw [IntKind.wrap_i64]; omega
  have h6 : (0 : Int) ≤ (at' : Int) + 1 := by omega
  have h4 : (cs.length : Int) ≤ (cap : Int) := by omega
  have HB : Hid (BrAt w k o cs) := hb
  clear hb
  go_enter Try.func105, Try.ntmps105
  go_wp2_with fail
  go_region_held3 (fun _ => True) (trivial) (first
    | (refine step_append_grows (by rfl) (.tmp 10) (.tmp 12) 101 ?_ 93 i0 (.pointer none) 1 8 Try.underlying101 hi0 hz0 hz1 hz2 rfl (by decide) (some ⟨k, o, none⟩) at' at' ((cs.take at').map ptr) (by rfl) (fun h => by cases h) (by simp; omega) (olds_of HB.out (((Below.refl _ _).alloc (Nat.le_refl _) _).drew) at')
        ⟨w.heap.size, 0, none⟩ 1 1 [ptr b] (by rfl) (by rfl) (World.news_of_block (cs := #[ptr b]) (t := 93) (fr := (0, 0)) (heap_alloc_new w _)) (by simp [Value.oneCell', ptr]) (by omega) (by unfold maxLen; omega) (by omega) ?_; rfl; intro v1 w1 hown1 hgrow1)
    | (refine step_append_tail (by rfl) (.tmp 13) (.tmp 17) 101 ?_ _ 93 i0 (.pointer none) 1 8 Try.underlying101 hi0 hz0 hz1 hz2 rfl (by decide) v1 (at' + 1) _ (by rfl) hown1 (if cap = at' + 1 then some ⟨k, o, none⟩ else some ⟨k, o + (at' + 1), none⟩) (cs.length - (at' + 1)) (cap - (at' + 1)) ((cs.drop (at' + 1)).map ptr) ?_ (by simp) (tail_src HB.out (below_built hgrow1) (at' + 1) hcap) (one_ptr _) (by unfold maxLen; omega) (by omega) hgrow1.size ?_; rfl; rfl; intro v2 w2 hown2 hgrow2))
  go_wp2
  all_goals
    go_ret
    obtain ⟨g, c, hv, hN⟩ := newRow_of (cs := cs') hown2 (size_built w _) (by rw [← HC.out]; simp) (by rw [HL.out]; omega) (by omega) (below_two hgrow1 hown1 (size_built w _) hgrow2)
    exact ⟨g, c, by show Ending.returned v2 = _; rw [hv], hN⟩

theorem below_made {w w0 w1 w2 : World} {e : TypeId} {size n : Nat} {v0 v1 : Value} {xs0 xs : List Value} {n0 : Nat} (hg0 : w.grownBy w0 none) (h0 : w0.ownsRow w.heap.size e size v0 n0 xs0) (hg1 : w0.drew.grownBy w1 v0.ownBlock) (ho : w1.ownsRow w.heap.size e size v1 n xs) (hg2 : w1.grownBy w2 v1.ownBlock) : Below w.heap.size w w1 ∧ Below w.heap.size w w2 := by
  have b0 : Below w.heap.size w w0 := Below.grown (Below.refl _ _) hg0 (Nat.le_refl _) (fun _ h => by cases h)
  have b1 : Below w.heap.size w w1 := Below.grown b0.drew hg1 b0.size (fun _ h => ownBlock_ge h0 h)
  exact ⟨b1, Below.grown b1 hg2 b1.size (fun _ h => ownBlock_ge ho h)⟩
theorem below_made1 {w w0 w1 : World} {e : TypeId} {size : Nat} {v0 : Value} {xs0 : List Value} {n0 : Nat} (hg0 : w.grownBy w0 none) (h0 : w0.ownsRow w.heap.size e size v0 n0 xs0) (hg1 : w0.drew.grownBy w1 v0.ownBlock) : Below w.heap.size w w1 := by
  have b0 : Below w.heap.size w w0 := Below.grown (Below.refl _ _) hg0 (Nat.le_refl _) (fun _ h => by cases h)
  exact Below.grown b0.drew hg1 b0.size (fun _ h => ownBlock_ge h0 h)


end Go.Proofs.Ytcgjppacnhmjlaa
end
