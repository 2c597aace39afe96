/- The document's own index: Put. -/
import Derived.Test.YtcgjppacnhmjlaaGreatRefB
import Derived.OwnWalk
set_option linter.unusedVariables false
set_option linter.unusedSimpArgs false
namespace Go.Proofs.YtcgjppacnhmjlaaGreat
open Go.RowKit

/-- Outside blocks r and g the world holds what it held. -/
structure ButR (r : Nat) (g : Option Nat) (w w' : World) : Prop where
  os : w'.os = w.os
  tape : w'.tape = w.tape
  output : w'.output = w.output
  size : w.heap.size ≤ w'.heap.size
  block : ∀ k, k < w.heap.size → k ≠ r → some k ≠ g → w'.heap[k]? = w.heap[k]?
theorem flat_set : ∀ (l : List KV) (i : Nat) (e : KV), flat (l.set i e) = ((flat l).set (i * 2) (.string (keyOf e))).set (i * 2 + 1) (.int .i64 e.2)
  | [], i, e => by simp [flat]
  | a :: l, 0, e => by simp [flat]
  | a :: l, i + 1, e => by
    have h := flat_set l i e
    have e1 : (i + 1) * 2 = i * 2 + 1 + 1 := by omega
    rw [e1]
    simpa [flat] using h
theorem flat_setv (l : List KV) (i : Nat) (k : List UInt8) (u v : Int) (h : l[i]? = some (k, u)) : flat (l.set i (k, v)) = (flat l).set (i * 2 + 1) (.int .i64 v) := by
  rw [flat_set]
  congr 1
  have h2 := (flat_get l i _ h).1
  apply List.ext_getElem?
  intro j
  rw [List.getElem?_set]
  split
  · rename_i hj; subst hj
    have hlt := (List.getElem?_eq_some_iff.mp h2).1
    rw [if_pos hlt, h2]; rfl
  · rfl
theorem srt_mid {k : List UInt8} {v : Int} {a b : List KV} (ha : Srt a) (hb : Srt b) (h1 : ∀ e ∈ a, klt e.1 k) (h2 : ∀ e ∈ b, klt k e.1) : Srt (a ++ (k, v) :: b) := by
  refine List.pairwise_append.mpr ⟨ha, List.pairwise_cons.mpr ⟨h2, hb⟩, fun x hx y hy => ?_⟩
  rcases List.mem_cons.mp hy with rfl | hy
  · exact h1 x hx
  · exact klt_trans (h1 x hx) (h2 y hy)
theorem take_lt {k : List UInt8} {l : List KV} (hs : Srt l) : ∀ e ∈ l.take (rpos k l), klt e.1 k := fun e he => by
  obtain ⟨t, ht⟩ := List.getElem?_of_mem he
  rw [List.getElem?_take] at ht
  split at ht
  · exact (rpos_spec k l hs).2.1 t e (by assumption) ht
  · cases ht
theorem drop_gt {k : List UInt8} {l : List KV} (hs : Srt l) (h : lk k l = none) : ∀ e ∈ l.drop (rpos k l), klt k e.1 := fun e he => by
  obtain ⟨t, ht⟩ := List.getElem?_of_mem he
  rw [List.getElem?_drop] at ht
  have h1 := (rpos_spec k l hs).2.2 _ e (by omega) ht
  have h2 := lk_none_iff.mp h e (List.mem_of_getElem? ht)
  rcases klt_tri e.1 k with h3 | h3 | h3
  · exact absurd h3 h1
  · exact absurd h3 h2
  · exact h3
theorem drop_gt' {k : List UInt8} {l : List KV} {u : Int} (hs : Srt l) (h : l[rpos k l]? = some (k, u)) : ∀ e ∈ l.drop (rpos k l + 1), klt k e.1 := fun e he => by
  obtain ⟨t, ht⟩ := List.getElem?_of_mem he
  rw [List.getElem?_drop] at ht
  exact srt_get hs h ht (by omega)
theorem klt_ne {a b : List UInt8} (h : klt a b) : a ≠ b := fun e => by rw [e] at h; exact klt_irrefl _ h
theorem ins_put {k : List UInt8} {l : List KV} {v : Int} (hs : Srt l) (h : lk k l = none) : l.take (rpos k l) ++ (k, v) :: l.drop (rpos k l) = ins k v l := by
  have h1 := take_lt (k := k) hs
  have h2 := drop_gt hs h
  refine ins_eq hs (srt_mid (List.Pairwise.sublist (List.take_sublist _ _) hs) (List.Pairwise.sublist (List.drop_sublist _ _) hs) h1 h2) fun e => ?_
  have h3 : e ∈ l ↔ e ∈ l.take (rpos k l) ∨ e ∈ l.drop (rpos k l) := by rw [← List.mem_append, List.take_append_drop]
  rw [h3, List.mem_append, List.mem_cons]
  constructor
  · rintro (h4 | h4 | h4)
    · exact .inr ⟨.inl h4, klt_ne (h1 e h4)⟩
    · exact .inl h4
    · exact .inr ⟨.inr h4, (klt_ne (h2 e h4)).symm⟩
  · rintro (h4 | ⟨h4 | h4, _⟩)
    · exact .inr (.inl h4)
    · exact .inl h4
    · exact .inr (.inr h4)
theorem split_at {k : List UInt8} {l : List KV} {u : Int} {q : Nat} (h : l[q]? = some (k, u)) : l = l.take q ++ (k, u) :: l.drop (q + 1) := by
  obtain ⟨h1, h2⟩ := List.getElem?_eq_some_iff.mp h
  rw [← h2, List.getElem_cons_drop, List.take_append_drop]
theorem ins_set {k : List UInt8} {l : List KV} {u v : Int} (hs : Srt l) (h : l[rpos k l]? = some (k, u)) : l.set (rpos k l) (k, v) = ins k v l := by
  have h1 := take_lt (k := k) hs
  have h2 := drop_gt' hs h
  have hq := (List.getElem?_eq_some_iff.mp h).1
  rw [List.set_eq_take_append_cons_drop, if_pos hq]
  refine ins_eq hs (srt_mid (List.Pairwise.sublist (List.take_sublist _ _) hs) (List.Pairwise.sublist (List.drop_sublist _ _) hs) h1 h2) fun e => ?_
  have h3 : e ∈ l ↔ e ∈ l.take (rpos k l) ∨ e = (k, u) ∨ e ∈ l.drop (rpos k l + 1) := by
    rw [← List.mem_cons, ← List.mem_append, ← split_at h]
  rw [h3, List.mem_append, List.mem_cons]
  constructor
  · rintro (h4 | h4 | h4)
    · exact .inr ⟨.inl h4, klt_ne (h1 e h4)⟩
    · exact .inl h4
    · exact .inr ⟨.inr (.inr h4), (klt_ne (h2 e h4)).symm⟩
  · rintro (h4 | ⟨h4 | h4 | h4, h5⟩)
    · exact .inr (.inl h4)
    · exact .inl h4
    · exact absurd (by rw [h4]) h5
    · exact .inr (.inr h4)
theorem del_cut {k : List UInt8} {l : List KV} {u : Int} (hs : Srt l) (h : l[rpos k l]? = some (k, u)) : l.take (rpos k l) ++ l.drop (rpos k l + 1) = del k l := by
  have h1 := take_lt (k := k) hs
  have h2 := drop_gt' hs h
  have hsub : (l.take (rpos k l) ++ l.drop (rpos k l + 1)).Sublist l := by
    conv => rhs; rw [split_at h]
    exact List.Sublist.append (List.Sublist.refl _) (List.sublist_cons_self _ _)
  refine del_eq hs (List.Pairwise.sublist hsub hs) fun e => ?_
  have h3 : e ∈ l ↔ e ∈ l.take (rpos k l) ∨ e = (k, u) ∨ e ∈ l.drop (rpos k l + 1) := by
    rw [← List.mem_cons, ← List.mem_append, ← split_at h]
  rw [h3, List.mem_append]
  constructor
  · rintro (h4 | h4)
    · exact ⟨.inl h4, klt_ne (h1 e h4)⟩
    · exact ⟨.inr (.inr h4), (klt_ne (h2 e h4)).symm⟩
  · rintro ⟨h4 | h4 | h4, h5⟩
    · exact .inl h4
    · exact absurd (by rw [h4]) h5
    · exact .inr h4
theorem infoPr : (Tryz.prog.info? 46).map (fun i => (i.zero, i.size, i.bytes)) = some (some (.agg #[.string ⟨#[]⟩, .int .i64 0]), 2, 24) := by kernel_rfl

theorem keyOf_mk (key : ByteArray) (v : Int) : keyOf (key.data.toList, v) = key := by simp [keyOf]

structure Raw (r : Nat) (go : Option Nat) (w : World) (g cap n : Nat) (M : List KV) (wr : World) : Prop where
  len : M.length = n
  blk : wr.heap[r]? = some (.cells #[.slice (some ⟨g, 0, none⟩) n cap] 36 (0, 0))
  row : wr.ownsRow 0 46 2 (.slice (some ⟨g, 0, none⟩) n cap) n (flat M)
  ne : g ≠ r
  but : ButR r go w wr
  new : some g = go ∨ w.heap.size ≤ g
theorem Raw.cell {r : Nat} {go : Option Nat} {w wr : World} {g cap n : Nat} {M : List KV} (h : Raw r go w g cap n M wr) : wr.cell? ⟨r, 0, none⟩ = some (.slice (some ⟨g, 0, none⟩) n cap) := by simp [World.cell?, h.blk]
theorem Raw.at {r : Nat} {go : Option Nat} {w wr : World} {g cap n : Nat} {M : List KV} (h : Raw r go w g cap n M wr) {i : Nat} {e : KV} (he : M[i]? = some e) : wr.cell? ⟨g, i * 2, none⟩ = some (.string (keyOf e)) ∧ wr.cell? ⟨g, i * 2 + 1, none⟩ = some (.int .i64 e.2) := by
  have := h.row
  obtain ⟨rfl⟩ := h.len
  exact ownsRow_pairs this i e he
theorem Raw.free {r : Nat} {go : Option Nat} {w wr : World} {g cap n : Nat} {M : List KV} (h : Raw r go w g cap n M wr) (j : Nat) : wr.frozen? ⟨g, j, none⟩ = false := h.row.frozenAt j
theorem Raw.drewN {r : Nat} {go : Option Nat} {w wr : World} {g cap n : Nat} {M : List KV} (h : Raw r go w g cap n M wr) (m : Nat) : Raw r go w g cap n M (wr.drewN m) := ⟨h.len, h.blk, h.row, h.ne, ⟨h.but.os, h.but.tape, h.but.output, h.but.size, h.but.block⟩, h.new⟩
theorem Raw.drew {r : Nat} {go : Option Nat} {w wr : World} {g cap n : Nat} {M : List KV} (h : Raw r go w g cap n M wr) : Raw r go w g cap n M wr.drew := ⟨h.len, h.blk, h.row, h.ne, ⟨h.but.os, h.but.tape, h.but.output, h.but.size, h.but.block⟩, h.new⟩
/-- A pair is written. -/
theorem Raw.set {r : Nat} {go : Option Nat} {w wr : World} {g cap n : Nat} {M : List KV} (h : Raw r go w g cap n M wr) (i : Nat) (e : KV) : Raw r go w g cap n (M.set i e) ((wr.setCell ⟨g, i * 2, none⟩ (.string (keyOf e))).setCell ⟨g, i * 2 + 1, none⟩ (.int .i64 e.2)) := by
  obtain ⟨h1, g1⟩ := h.row.stored (i * 2) (.string (keyOf e))
  obtain ⟨h2, g2⟩ := h1.stored (i * 2 + 1) (.int .i64 e.2)
  refine ⟨by rw [List.length_set]; exact h.len, ?_, by rw [flat_set]; exact h2, h.ne, ?_, h.new⟩
  · rw [Below.heap_setCell _ _ _ _ (fun e => h.ne e.symm), Below.heap_setCell _ _ _ _ (fun e => h.ne e.symm)]
    exact h.blk
  · refine ⟨h.but.os, h.but.tape, h.but.output, Nat.le_trans h.but.size (Nat.le_trans g1.size g2.size), fun k hk h1 h2 => ?_⟩
    have hkg : k ≠ g := fun e => by
      rcases h.new with h3 | h3
      · exact h2 (by rw [e]; exact h3)
      · omega
    rw [Below.heap_setCell _ _ _ _ hkg, Below.heap_setCell _ _ _ _ hkg]
    exact h.but.block k hk h1 h2
def zeroP : KV := ([], 0)
def shiftM (l : List KV) (k : Nat) : List KV := (l ++ [zeroP]).take (k + 1) ++ l.drop k
theorem shiftM_len (l : List KV) (k : Nat) (hk : k ≤ l.length) : (shiftM l k).length = l.length + 1 := by simp [shiftM]; omega
theorem shiftM_full (l : List KV) : shiftM l l.length = l ++ [zeroP] := by
  unfold shiftM
  rw [List.take_of_length_le (by simp), List.drop_eq_nil_of_le (Nat.le_refl _), List.append_nil]
theorem shiftM_get (l : List KV) (k t : Nat) (hk : k ≤ l.length) : (shiftM l k)[t]? = if t ≤ k then (l ++ [zeroP])[t]? else l[t - 1]? := by
  unfold shiftM
  have hl : ((l ++ [zeroP]).take (k + 1)).length = k + 1 := by simp; omega
  by_cases h : t ≤ k
  · rw [if_pos h, List.getElem?_append_left (by omega), List.getElem?_take, if_pos (by omega)]
  · rw [if_neg h, List.getElem?_append_right (by omega), hl, List.getElem?_drop]
    congr 1; omega
theorem shiftM_step (l : List KV) (p : Nat) (e : KV) (hp : p + 1 ≤ l.length) (he : l[p]? = some e) : (shiftM l (p + 1)).set (p + 1) e = shiftM l p := by
  apply List.ext_getElem?
  intro t
  rw [List.getElem?_set, shiftM_get l (p + 1) t hp, shiftM_get l p t (by omega), shiftM_len l (p + 1) hp]
  by_cases h1 : p + 1 = t
  · subst h1
    rw [if_pos rfl, if_pos (by omega), if_neg (by omega)]
    exact he.symm
  · rw [if_neg h1]
    by_cases h2 : t ≤ p
    · rw [if_pos (by omega), if_pos h2]
    · rw [if_neg (by omega), if_neg h2]
theorem shiftM_last (l : List KV) (q : Nat) (e : KV) (hq : q ≤ l.length) : (shiftM l q).set q e = l.take q ++ e :: l.drop q := by
  apply List.ext_getElem?
  intro t
  rw [List.getElem?_set, shiftM_get l q t hq, getElem?_put l q t e hq, shiftM_len l q hq]
  by_cases h1 : q = t
  · subst h1
    rw [if_pos rfl, if_pos (by omega), if_neg (by omega), if_pos rfl]
  · rw [if_neg h1]
    by_cases h2 : t ≤ q
    · rw [if_pos h2, if_pos (by omega), List.getElem?_append_left (by omega)]
    · rw [if_neg h2, if_neg (by omega), if_neg (by omega)]
theorem flat_snoc (l : List KV) (e : KV) : flat (l ++ [e]) = flat l ++ [.string (keyOf e), .int .i64 e.2] := by simp [flat]
/-- Behind the growing of the list. -/
theorem raw_start {r n : Nat} {ao : Option Addr} {w w1 : World} {g cap cap' : Nat} {l : List KV} {ob : Obj} (h : RefAt w r (.slice ao l.length cap) l)
    (hown : w1.ownsRow 0 46 2 (.slice (some ⟨g, 0, none⟩) (l.length + 1) cap') (l.length + 1) (flat l ++ [.string ⟨#[]⟩, .int .i64 0]))
    (hgrow : ((w.drewN n).alloc ob).grownBy w1 (Value.slice ao l.length cap).ownBlock) (hat : (Value.slice ao l.length cap).ownBlock = some g ∨ g = ((w.drewN n).alloc ob).heap.size) :
    w1.cell? ⟨r, 0, none⟩ = some (.slice ao l.length cap) ∧ w1.frozen? ⟨r, 0, none⟩ = false ∧ Raw r (Value.slice ao l.length cap).ownBlock w g cap' (l.length + 1) (shiftM l l.length) (w1.setCell ⟨r, 0, none⟩ (.slice (some ⟨g, 0, none⟩) (l.length + 1) cap')) := by
  have hlt := idx_lt h.blk
  have hsz : ((w.drewN n).alloc ob).heap.size = w.heap.size + 1 := by simp
  have b1 : w1.heap[r]? = some (.cells #[.slice ao l.length cap] 36 (0, 0)) := by
    rw [hgrow.block r (by omega) (fun e => h.out e.symm)]
    exact ((below_alloc (w.drewN n) ob).block r hlt).trans h.blk
  have hne : g ≠ r := by
    rcases hat with h1 | h1
    · exact fun e => h.out (e ▸ h1)
    · omega
  refine ⟨by simp [World.cell?, b1], by simp [World.frozen?, b1], by rw [shiftM_len _ _ (Nat.le_refl _)], ?_, ?_, hne, ?_, ?_⟩
  · simp only [World.setCell, Array.getElem?_modify, if_true, b1, Option.map_some]
    simp
  · rw [shiftM_full, flat_snoc]
    exact ownsRow_setCell_other hown (by simp [Value.ownBlock]; exact hne) _
  · refine ⟨hgrow.os, hgrow.tape, hgrow.output, ?_, fun k hk h1 h2 => ?_⟩
    · have := hgrow.size; simp [World.setCell]; omega
    · rw [Below.heap_setCell _ _ _ _ h1, hgrow.block k (by omega) h2]
      exact (below_alloc (w.drewN n) ob).block k hk
  · rcases hat with h1 | h1
    · exact .inl h1.symm
    · right; omega
theorem raw_end {r : Nat} {go : Option Nat} {w wr : World} {g cap n : Nat} {M : List KV} (h : Raw r go w g cap n M wr) (hs : Srt M) (h64 : Keys64 M) (hf : M.length ≤ 3000) : ∃ av', RefAt wr r av' M ∧ ButR r go w wr ∧ (av'.ownBlock = go ∨ ∃ g, av'.ownBlock = some g ∧ w.heap.size ≤ g) := by
  refine ⟨_, ⟨h.blk, ?_, ?_, hs, h64, hf⟩, h.but, ?_⟩
  · rw [h.len]; exact h.row
  · simp [Value.ownBlock]; exact h.ne
  · rcases h.new with h1 | h1
    · exact .inl h1
    · exact .inr ⟨g, rfl, h1⟩
theorem keys64_ins {k : List UInt8} {v : Int} {l : List KV} (h : Keys64 l) (hk : k.length ≤ 64) : Keys64 (ins k v l) := fun e he => by
  rcases mem_ins.mp he with rfl | ⟨h1, _⟩
  · exact hk
  · exact h e h1

set_option maxRecDepth 100000 in
set_option maxHeartbeats 2000000 in
theorem rput_new {w : World} {r : Nat} {av : Value} {l : List KV} (h : RefAt w r av l) (key : ByteArray) (v : Int) (hk : key.size ≤ 64) (hu : lk key.data.toList l = none) (hf : l.length < 3000) :
    Calls Tryz.prog 32 #[.pointer (some ⟨r, 0, none⟩), .string key, .int .i64 v] w fun e w' => e = .returned (.tuple #[.int .i64 0, .bool false, .int .i64 0]) ∧ ∃ av', RefAt w' r av' (ins key.data.toList v l) ∧ ButR r av.ownBlock w w' ∧ (av'.ownBlock = av.ownBlock ∨ ∃ g, av'.ownBlock = some g ∧ w.heap.size ≤ g) := by
  obtain ⟨i0, hi0, hz0, hz1, hz2⟩ := info_parts infoPr
  have HPl : Hid (Calls Tryz.prog 41 #[.pointer (some ⟨r, 0, none⟩), .string key] w fun e w' => e = .returned (.tuple #[.int .i64 (rpos key.data.toList l), .bool (foundB key.data.toList l)]) ∧ ∃ n, w' = w.drewN n) := rplace_any h key (by omega)
  have ef : foundB key.data.toList l = false := by unfold foundB; rw [hu]; rfl
  rw [ef] at HPl
  have hr := h.cell
  have hfr := h.free
  have hq := (rpos_spec key.data.toList l h.srt).1
  have HO : Hid (w.ownsRow 0 46 2 av l.length (flat l)) := h.row
  obtain ⟨ao, cap, rfl⟩ : ∃ ao cap, av = .slice ao l.length cap := by
    rcases h.cases with ⟨rfl, rfl⟩ | ⟨g, cap, rfl, hp, hc⟩
    · exact ⟨_, _, rfl⟩
    · exact ⟨_, _, rfl⟩
  have hin : Hid (l.take (rpos key.data.toList l) ++ (key.data.toList, v) :: l.drop (rpos key.data.toList l) = ins key.data.toList v l) := ins_put h.srt hu
  have HH : Hid (RefAt w r (.slice ao l.length cap) l) := h
  clear h hu ef
  generalize rpos key.data.toList l = q at *
  go_enter Tryz.func32, Tryz.ntmps32
  go_wp2_with (first
    | (go_at_call 41; refine HPl.out.mono ?_; rintro e w' ⟨rfl, n, rfl⟩)
    | (at_builtin; refine wpList_append_lies _ rfl _ _ _ rfl 0 46 i0 (.agg #[.string ⟨#[]⟩, .int .i64 0]) 2 24 Tryz.underlying34 hi0 hz0 hz1 hz2 rfl (by omega) (.slice ao l.length cap) l.length _ rfl (World.ownsRow.alloc (w := w.drewN n) HO.out _) ⟨w.heap.size, 0, none⟩ 1 1 [.string ⟨#[]⟩, .int .i64 0] rfl rfl (World.news_of_block (cs := #[.string ⟨#[]⟩, .int .i64 0]) (t := 46) (fr := (0, 0)) (heap_alloc_new (w.drewN n) _)) (by simp [Value.oneCell']) (by omega) (by unfold maxLen; omega) (by omega) (by omega) _ rfl ?_; intro g cap' w1 hown1 hgrow1 hat1 hlt1; obtain ⟨hr1, hfr1, hraw⟩ := raw_start HH.out hown1 hgrow1 hat1; have HRAW : Hid (Raw r (Value.slice ao l.length cap).ownBlock w g cap' (l.length + 1) (shiftM l l.length) (w1.setCell ⟨r, 0, none⟩ (.slice (some ⟨g, 0, none⟩) (l.length + 1) cap'))) := hraw; have hrc := HRAW.out.cell; clear hown1 hgrow1 hat1 hraw))
  clear hr1 hfr1
  go_loopg [12] l.length (fun gk s12 wr => ∃ k : Nat, s12 = .int .i64 k ∧ q ≤ k ∧ k ≤ l.length ∧ gk = k ∧ Hid (Raw r (Value.slice ao l.length cap).ownBlock w g cap' (l.length + 1) (shiftM l k) wr))
  case atStart => exact ⟨l.length, rfl, hq, Nat.le_refl _, rfl, HRAW.out⟩
  case round =>
    clear HRAW hrc
    obtain ⟨k, rfl, hqk, hkl, rfl, HW⟩ := hrel
    by_cases hlt : q < gk
    · obtain ⟨p, rfl⟩ : ∃ p, gk = p + 1 := ⟨gk - 1, by omega⟩
      obtain ⟨e, he⟩ : ∃ e, l[p]? = some e := ⟨l[p]'(by omega), List.getElem?_eq_getElem _⟩
      have he2 : (shiftM l (p + 1))[p]? = some e := by rw [shiftM_get _ _ _ hkl, if_pos (by omega), List.getElem?_append_left (by omega)]; exact he
      have hc := HW.out.cell
      obtain ⟨hc1, hc2⟩ := HW.out.at he2
      obtain ⟨e', he3⟩ : ∃ e', (shiftM l (p + 1))[p + 1]? = some e' := ⟨_, List.getElem?_eq_getElem (by rw [shiftM_len _ _ hkl]; omega)⟩
      obtain ⟨hd1, hd2⟩ := HW.out.at he3
      have hfz := HW.out.free
      clear he3
      have HN : Hid (Raw r (Value.slice ao l.length cap).ownBlock w g cap' (l.length + 1) (shiftM l p) ((wr.setCell ⟨g, (p + 1) * 2, none⟩ (.string (keyOf e))).setCell ⟨g, (p + 1) * 2 + 1, none⟩ (.int .i64 e.2))) := by
        rw [← shiftM_step l p e hkl he]; exact HW.out.set (p + 1) e
      clear he he2
      go_wp2
      go_region
      go_wp2
      go_roundg p
      case measure => omega
      case rel => exact ⟨p, by go_num, by omega, by omega, rfl, HN.out.drew⟩
    · have ek : gk = q := by omega
      subst ek
      obtain ⟨e', he3⟩ : ∃ e', (shiftM l gk)[gk]? = some e' := ⟨_, List.getElem?_eq_getElem (by rw [shiftM_len _ _ hkl]; omega)⟩
      obtain ⟨hd1, hd2⟩ := HW.out.at he3
      have hfz := HW.out.free
      have hc := HW.out.cell
      have HN : Hid (Raw r (Value.slice ao l.length cap).ownBlock w g cap' (l.length + 1) (ins key.data.toList v l) ((wr.setCell ⟨g, gk * 2, none⟩ (.string key)).setCell ⟨g, gk * 2 + 1, none⟩ (.int .i64 v))) := by
        have := HW.out.set gk (key.data.toList, v)
        rw [shiftM_last l gk _ hkl, hin.out, keyOf_mk] at this
        exact this
      clear he3
      go_wp2
      go_ret3
      exact ⟨rfl, raw_end HN.out (srt_ins HH.out.srt) (keys64_ins HH.out.short (by simpa using hk)) (by rw [HN.out.len]; omega)⟩

set_option maxHeartbeats 400000 in
theorem rput_long {w : World} {r : Nat} (key : ByteArray) (v : Int) (hk : 64 < key.size) (hk2 : key.size ≤ 9223372036854775807) :
    Calls Tryz.prog 32 #[.pointer (some ⟨r, 0, none⟩), .string key, .int .i64 v] w fun e w' => e = .returned (.tuple #[.int .i64 0, .bool false, .int .i64 1]) ∧ w' = w := by
  go_enter Tryz.func32, Tryz.ntmps32
  go_wp2
  go_ret3
  exact ⟨rfl, rfl⟩
set_option maxRecDepth 100000 in
set_option maxHeartbeats 400000 in
theorem rput_full {w : World} {r : Nat} {av : Value} {l : List KV} (h : RefAt w r av l) (key : ByteArray) (v : Int) (hk : key.size ≤ 64) (hu : lk key.data.toList l = none) (hf : 3000 ≤ l.length) :
    Calls Tryz.prog 32 #[.pointer (some ⟨r, 0, none⟩), .string key, .int .i64 v] w fun e w' => e = .returned (.tuple #[.int .i64 0, .bool false, .int .i64 2]) ∧ ∃ n, w' = w.drewN n := by
  have HPl : Hid (Calls Tryz.prog 41 #[.pointer (some ⟨r, 0, none⟩), .string key] w fun e w' => e = .returned (.tuple #[.int .i64 (rpos key.data.toList l), .bool (foundB key.data.toList l)]) ∧ ∃ n, w' = w.drewN n) := rplace_any h key (by omega)
  have ef : foundB key.data.toList l = false := by unfold foundB; rw [hu]; rfl
  rw [ef] at HPl
  have hr := h.cell
  have hfew := h.few
  obtain ⟨ao, cap, rfl⟩ : ∃ ao cap, av = .slice ao l.length cap := by
    rcases h.cases with ⟨rfl, rfl⟩ | ⟨g, cap, rfl, hp, hc⟩
    · exact ⟨_, _, rfl⟩
    · exact ⟨_, _, rfl⟩
  clear h hu ef
  generalize rpos key.data.toList l = q at *
  go_enter Tryz.func32, Tryz.ntmps32
  go_wp2_with (go_at_call 41; refine HPl.out.mono ?_; rintro e w' ⟨rfl, n, rfl⟩)
  go_ret3
  exact ⟨rfl, _, rfl⟩
theorem RefAt.raw {w : World} {r g cap : Nat} {l : List KV} (h : RefAt w r (.slice (some ⟨g, 0, none⟩) l.length cap) l) : Raw r (some g) w g cap l.length l w :=
  ⟨rfl, h.blk, h.row, fun e => h.out (by rw [← e]; rfl), ⟨rfl, rfl, rfl, Nat.le_refl _, fun _ _ _ _ => rfl⟩, .inl rfl⟩
theorem Raw.setv {r : Nat} {go : Option Nat} {w wr : World} {g cap n : Nat} {M : List KV} (h : Raw r go w g cap n M wr) (i : Nat) (k : List UInt8) (u v : Int) (hi : M[i]? = some (k, u)) : Raw r go w g cap n (M.set i (k, v)) (wr.setCell ⟨g, i * 2 + 1, none⟩ (.int .i64 v)) := by
  obtain ⟨h1, g1⟩ := h.row.stored (i * 2 + 1) (.int .i64 v)
  refine ⟨by rw [List.length_set]; exact h.len, ?_, by rw [flat_setv M i k u v hi]; exact h1, h.ne, ?_, h.new⟩
  · rw [Below.heap_setCell _ _ _ _ (fun e => h.ne e.symm)]
    exact h.blk
  · refine ⟨h.but.os, h.but.tape, h.but.output, Nat.le_trans h.but.size g1.size, fun k hk h1 h2 => ?_⟩
    have hkg : k ≠ g := fun e => by
      rcases h.new with h3 | h3
      · exact h2 (by rw [e]; exact h3)
      · omega
    rw [Below.heap_setCell _ _ _ _ hkg]
    exact h.but.block k hk h1 h2
set_option maxRecDepth 100000 in
set_option maxHeartbeats 400000 in
theorem rput_old {w : World} {r : Nat} {av : Value} {l : List KV} (h : RefAt w r av l) (key : ByteArray) (v : Int) (hk : key.size ≤ 64) {u : Int} (hu : lk key.data.toList l = some u) :
    Calls Tryz.prog 32 #[.pointer (some ⟨r, 0, none⟩), .string key, .int .i64 v] w fun e w' => e = .returned (.tuple #[.int .i64 u, .bool true, .int .i64 0]) ∧ ∃ av', RefAt w' r av' (ins key.data.toList v l) ∧ ButR r av.ownBlock w w' ∧ (av'.ownBlock = av.ownBlock ∨ ∃ g, av'.ownBlock = some g ∧ w.heap.size ≤ g) := by
  have HPl : Hid (Calls Tryz.prog 41 #[.pointer (some ⟨r, 0, none⟩), .string key] w fun e w' => e = .returned (.tuple #[.int .i64 (rpos key.data.toList l), .bool (foundB key.data.toList l)]) ∧ ∃ n, w' = w.drewN n) := rplace_any h key (by omega)
  have ef : foundB key.data.toList l = true := by unfold foundB; rw [hu]; rfl
  rw [ef] at HPl
  have hfew := h.few
  have hpair := found_pair h.srt hu
  have hlt := (List.getElem?_eq_some_iff.mp hpair).1
  rcases h.cases with ⟨rfl, rfl⟩ | ⟨g, cap, rfl, hp, hc⟩
  · simp at hlt
  have HN : Hid (∀ n, Raw r (some g) w g cap l.length (ins key.data.toList v l) ((w.drewN n).setCell ⟨g, rpos key.data.toList l * 2 + 1, none⟩ (.int .i64 v))) := fun n => by
    have := (h.raw.drewN n).setv _ _ u v hpair
    rwa [ins_set h.srt hpair] at this
  have HEnd : Hid (∀ wr, Raw r (some g) w g cap l.length (ins key.data.toList v l) wr → ∃ av', RefAt wr r av' (ins key.data.toList v l) ∧ ButR r (Value.slice (some ⟨g, 0, none⟩) l.length cap).ownBlock w wr ∧ (av'.ownBlock = (Value.slice (some ⟨g, 0, none⟩) l.length cap).ownBlock ∨ ∃ g, av'.ownBlock = some g ∧ w.heap.size ≤ g)) := fun wr hw => raw_end hw (srt_ins h.srt) (keys64_ins h.short (by simpa using hk)) (by rw [hw.len]; omega)
  obtain ⟨hc1, hc2⟩ := hp _ _ hpair
  have hfz := h.raw.free
  have hr := h.cell
  have hrw := fun n => (h.raw.drewN n).cell
  clear h hu ef hp hpair
  generalize rpos key.data.toList l = q at *
  go_enter Tryz.func32, Tryz.ntmps32
  go_wp2_with (go_at_call 41; refine HPl.out.mono ?_; rintro e w' ⟨rfl, n, rfl⟩)
  go_ret3
  exact ⟨rfl, HEnd.out _ (HN.out n)⟩

/-- Put, as the document has it: what it answers, what the index holds then. -/
def putErr (key : ByteArray) (l : List KV) : Int := if 64 < key.size then 1 else if (lk key.data.toList l).isSome then 0 else if 3000 ≤ l.length then 2 else 0

end Go.Proofs.YtcgjppacnhmjlaaGreat
