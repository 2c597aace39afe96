/- Put and Delete of an index. -/
import Derived.Test.YtcgjppacnhmjlaaGreatIndex
set_option linter.unusedVariables false
set_option linter.unusedSimpArgs false
namespace Go.Proofs.YtcgjppacnhmjlaaGreat
open Go.RowKit
attribute [local go_sem ↓] Go.wp_at_zero Go.wp_at_succ

theorem But.of_below {x : Nat} {w w' : World} (h : Below w.heap.size w w') : But x w w' := ⟨h.os, h.tape, h.output, h.size, fun k hk _ => h.block k hk⟩
theorem But.trans {x : Nat} {a b c : World} (h : But x a b) (k : But x b c) : But x a c :=
  ⟨k.os.trans h.os, k.tape.trans h.tape, k.output.trans h.output, Nat.le_trans h.size k.size, fun i hi hx => (k.block i (Nat.lt_of_lt_of_le hi h.size) hx).trans (h.block i hi hx)⟩
theorem But.set (x : Nat) (w : World) (v : Value) : But x w (w.setCell ⟨x, 0, none⟩ v) := ⟨rfl, rfl, rfl, by simp [World.setCell], fun k _ hx => Below.heap_setCell _ _ _ _ hx⟩
theorem set_idx {w : World} {x : Nat} {tp tq : Option Addr} (h : w.heap[x]? = some (.cells #[.pointer tp] 64 (0, 0))) : (w.setCell ⟨x, 0, none⟩ (.pointer tq)).heap[x]? = some (.cells #[.pointer tq] 64 (0, 0)) := by
  simp only [World.setCell, Array.getElem?_modify, if_true, h, Option.map_some]
  simp
theorem TreeN.keep {S : Nat → Prop} {n : Nat} {w w' : World} {tp : Option Addr} {l : List KV} (h : TreeN S n w tp l) (hk : Kept S w w') : TreeN S n w' tp l := by
  rcases h with h | ⟨t, h1, h2⟩
  · exact .inl h
  · exact .inr ⟨t, h1, h2.frame hk⟩
/-- Behind a swap the index has the new tree. -/
theorem IndexAt.swap {S : Nat → Prop} {w : World} {x n : Nat} {tp tq : Option Addr} {l : List KV} (hx : w.heap[x]? = some (.cells #[.pointer tp] 64 (0, 0))) (hS : ¬ S x) (hT : TreeN S n w tq l) (hf : l.length ≤ 3000) : IndexAt S (w.setCell ⟨x, 0, none⟩ (.pointer tq)) x l :=
  ⟨⟨n, tq, set_idx hx, hT.keep fun k hk => Below.heap_setCell _ _ _ _ (fun (e : k = x) => hS (e ▸ hk))⟩, hS, hf⟩

set_option maxRecDepth 100000 in
set_option maxHeartbeats 400000 in
theorem indexShape_any {S : Nat → Prop} {w : World} {x : Nat} {l : List KV} (h : IndexAt S w x l) :
    ∃ c g, ShapeL l c g ∧ Calls Tryz.prog 18 #[.pointer (some ⟨x, 0, none⟩)] w fun e w' => e = .returned (shapeV c g) ∧ Below w.heap.size w w' := by
  obtain ⟨n, tp, hx, hT⟩ := h.tree
  have hb := below_alloc w (shp (fun _ => 0) 0)
  have hlt := idx_lt hx
  have hx1 : (w.alloc (shp (fun _ => 0) 0)).heap[x]? = some (.cells #[.pointer tp] 64 (0, 0)) := (hb.block x hlt).trans hx
  obtain ⟨c, g, hsh, hcall⟩ := shape_any (hT.on hb) (by have := h.few; omega)
  refine ⟨c, g, hsh, ?_⟩
  have HL : Hid (Calls Tryz.prog 23 #[.pointer (some ⟨x, 0, none⟩)] (w.alloc (shp (fun _ => 0) 0)) fun e w' => e = .returned (.pointer tp) ∧ w' = w.alloc (shp (fun _ => 0) 0)) := load_any (idx_cell hx1) (hT.on hb).ptr
  have HG : Hid (Calls Tryz.prog 35 #[.pointer tp] (w.alloc (shp (fun _ => 0) 0)) fun e w' => e = .returned (shapeV c g) ∧ Below (w.alloc (shp (fun _ => 0) 0)).heap.size (w.alloc (shp (fun _ => 0) 0)) w') := hcall
  clear hx hT h hcall hsh hx1
  go_enter Tryz.func18, Tryz.ntmps18
  go_wp2_with (first | (go_at_call 23; refine HL.out.mono ?_; rintro e w' ⟨rfl, rfl⟩) | (go_at_call 35; refine HG.out.mono ?_; rintro e w3 ⟨rfl, hb3⟩; have hr : w3.heap[w.heap.size]? = some (shp (fun _ => 0) 0) := (hb3.block _ (by simp)).trans (heap_alloc_new w _); obtain ⟨r0, r1, r2, r3, r4, r5⟩ := shp_cell hr; have fr := shp_free hr; have HB : Hid (Below w.heap.size w w3) := (below_alloc w _).trans (hb3.mono (below_alloc w _).size); clear hb3 hr; unfold shapeV))
  refine bodyPost_ret (v := shapeV c g) (by simp [results, Tryz.results18, go_sem, shapeV, r0, r1, r2, r3, r4, r5]) rfl ⟨rfl, ?_⟩
  exact (((((HB.out.setCell (by simp) _).setCell (by simp) _).setCell (by simp) _).setCell (by simp) _).setCell (by simp) _).setCell (by simp) _

theorem put_long {w : World} {x : Nat} {key : ByteArray} {v : Int} (hk : 64 < key.size) (hk2 : key.size ≤ 9223372036854775807) :
    Calls Tryz.prog 31 #[.pointer (some ⟨x, 0, none⟩), .string key, .int .i64 v] w fun e w' => e = .returned (.tuple #[.int .i64 0, .bool false, .int .i64 1]) ∧ w' = w := by
  go_enter Tryz.func31, Tryz.ntmps31
  go_wp2
  go_ret3
  exact ⟨rfl, rfl⟩

set_option maxRecDepth 100000 in
set_option maxHeartbeats 1000000 in
theorem put_full {S : Nat → Prop} {w : World} {x : Nat} {l : List KV} {key : ByteArray} {v : Int} (h : IndexAt S w x l) (hk : key.size ≤ 64) (hn : lk key.data.toList l = none) (hf : 3000 ≤ l.length) :
    Calls Tryz.prog 31 #[.pointer (some ⟨x, 0, none⟩), .string key, .int .i64 v] w fun e w' => e = .returned (.tuple #[.int .i64 0, .bool false, .int .i64 2]) ∧ Below w.heap.size w w' := by
  obtain ⟨n, tp, hx, hT⟩ := h.tree
  have hlt := idx_lt hx
  have HCl : Hid (Calls Tryz.prog 48 #[.string key] w fun e w' => e = .returned (.string key) ∧ Below w.heap.size w w') := clone_any key w (by omega)
  have HL : Hid (∀ w1, Below w.heap.size w w1 → Calls Tryz.prog 23 #[.pointer (some ⟨x, 0, none⟩)] w1 fun e w' => e = .returned (.pointer tp) ∧ w' = w1) := fun w1 hb => load_any (idx_cell ((hb.block x hlt).trans hx)) (hT.on hb).ptr
  have HG : Hid (∀ w1, Below w.heap.size w w1 → Calls Tryz.prog 34 #[.pointer tp, .string key] w1 fun e w' => e = .returned (.tuple #[.int .i64 0, .bool false]) ∧ Below w.heap.size w w') := fun w1 hb => (get_any (hT.on hb) (by omega)).mono fun e w' he => by
    rw [hn] at he; exact ⟨he.1, hb.trans (he.2.mono hb.size)⟩
  have HZ : Hid (∀ w1, Below w.heap.size w w1 → Calls Tryz.prog 24 #[.pointer tp] w1 fun e w' => e = .returned (.int .i64 l.length) ∧ w' = w1) := fun w1 hb => size_any (hT.on hb)
  have hf2 := h.few
  clear hx hT h hn
  go_enter Tryz.func31, Tryz.ntmps31
  go_wp2_with (go_at_call 48; refine HCl.out.mono ?_; rintro e w1 ⟨rfl, hb1⟩)
  refine wp_loop_rounds 1 ?_
  rw [rounds_succ]
  go_wp2_with (first | (go_at_call 23; refine (HL.out _ hb1).mono ?_; rintro e w' ⟨rfl, rfl⟩) | (go_at_call 34; refine (HG.out _ hb1).mono ?_; rintro e w2 ⟨rfl, hb2⟩) | (go_at_call 24; refine (HZ.out _ hb2).mono ?_; rintro e w' ⟨rfl, rfl⟩))
  go_ret3
  exact ⟨rfl, hb2⟩

theorem srt_of {S : Nat → Prop} {n : Nat} {w : World} {tp : Option Addr} {l : List KV} (h : TreeN S n w tp l) : Srt l := by
  rcases h with ⟨_, rfl⟩ | ⟨t, _, h⟩
  · exact List.Pairwise.nil
  · exact h.srt
theorem len_ins_some {V : Type} {k : List UInt8} {v u : V} {l : List (List UInt8 × V)} (hs : Srt l) (hu : lk k l = some u) : (ins k v l).length = l.length := by
  have h1 := len_del hs hu
  have h2 : del k (ins k v l) = del k l := by
    refine del_eq hs (srt_del (srt_ins hs)) fun e => ?_
    rw [mem_del, mem_ins]
    constructor
    · rintro ⟨h | h, h2⟩
      · exact absurd (by rw [h]) h2
      · exact h
    · rintro ⟨h, h2⟩
      exact ⟨.inr ⟨h, h2⟩, h2⟩
  have h3 := len_del (k := k) (l := ins k v l) (v := v) (srt_ins (v := v) hs) (lk_some (srt_ins hs) (mem_ins.mpr (.inl rfl)))
  rw [h2] at h3
  omega

set_option maxRecDepth 100000 in
set_option maxHeartbeats 1000000 in
theorem put_new {S : Nat → Prop} {w : World} {x : Nat} {l : List KV} {key : ByteArray} {v : Int} (hS : Open S w) (h : IndexAt S w x l) (hk : key.size ≤ 64) (hn : lk key.data.toList l = none) (hf : l.length < 3000) :
    Calls Tryz.prog 31 #[.pointer (some ⟨x, 0, none⟩), .string key, .int .i64 v] w fun e w' => e = .returned (.tuple #[.int .i64 (valOr (lk key.data.toList l)), .bool (lk key.data.toList l).isSome, .int .i64 0]) ∧ IndexAt S w' x (ins key.data.toList v l) ∧ But x w w' := by
  obtain ⟨n, tp, hx, hT⟩ := h.tree
  have hlt := idx_lt hx
  have hfew : (ins key.data.toList v l).length ≤ 3000 := by have := len_ins_le key.data.toList v l (srt_of hT); omega
  have HCl : Hid (Calls Tryz.prog 48 #[.string key] w fun e w' => e = .returned (.string key) ∧ Below w.heap.size w w') := clone_any key w (by omega)
  have HL : Hid (∀ w1, Below w.heap.size w w1 → Calls Tryz.prog 23 #[.pointer (some ⟨x, 0, none⟩)] w1 fun e w' => e = .returned (.pointer tp) ∧ w' = w1) := fun w1 hb => load_any (idx_cell ((hb.block x hlt).trans hx)) (hT.on hb).ptr
  have HZ : Hid (∀ w1, Below w.heap.size w w1 → Calls Tryz.prog 24 #[.pointer tp] w1 fun e w' => e = .returned (.int .i64 l.length) ∧ w' = w1) := fun w1 hb => size_any (hT.on hb)
  have HWi : Hid (∀ w1, Below w.heap.size w w1 → Calls Tryz.prog 50 #[.pointer tp, .string key, .int .i64 v] w1 fun e w' => ∃ n' tp', e = .returned (.pointer tp') ∧ TreeN S n' w' tp' (ins key.data.toList v l) ∧ Below w.heap.size w w') := fun w1 hb => (withTree_any (hS.later hb) (hT.on hb) hk (by have := h.few; omega)).mono fun e w' he => by
    obtain ⟨n', tp', h1, h2, h3⟩ := he; exact ⟨n', tp', h1, h2, hb.trans (h3.mono hb.size)⟩
  have HCa : Hid (∀ w1 n' tq L, Below w.heap.size w w1 → TreeN S n' w1 tq L → Calls Tryz.prog 49 #[.pointer (some ⟨x, 0, none⟩), .pointer tp, .pointer tq] w1 fun e w' => e = .returned (.bool true) ∧ w' = w1.setCell ⟨x, 0, none⟩ (.pointer tq)) := fun w1 n' tq L hb hq => cas_any (idx_cell ((hb.block x hlt).trans hx)) (idx_free ((hb.block x hlt).trans hx)) (hT.on hb).ptr hq.ptr
  have HEnd : Hid (∀ w1 n' tq, Below w.heap.size w w1 → TreeN S n' w1 tq (ins key.data.toList v l) → IndexAt S (w1.setCell ⟨x, 0, none⟩ (.pointer tq)) x (ins key.data.toList v l) ∧ But x w (w1.setCell ⟨x, 0, none⟩ (.pointer tq))) := fun w1 n' tq hb hq => ⟨IndexAt.swap ((hb.block x hlt).trans hx) h.out hq hfew, (But.of_below hb).trans (But.set x w1 _)⟩
  have hg := fun w1 (hb : Below w.heap.size w w1) => (get_any (key := key) (hT.on hb) (by omega)).mono fun e w' he => (⟨he.1, hb.trans (he.2.mono hb.size)⟩ : e = .returned (.tuple #[.int .i64 (valOr (lk key.data.toList l)), .bool (lk key.data.toList l).isSome]) ∧ Below w.heap.size w w')
  rw [hn] at hg ⊢
  have HG : Hid (∀ w1, Below w.heap.size w w1 → Calls Tryz.prog 34 #[.pointer tp, .string key] w1 fun e w' => e = .returned (.tuple #[.int .i64 (valOr none), .bool false]) ∧ Below w.heap.size w w') := hg
  have hfI : ¬ (3000 : Int) ≤ (l.length : Int) := by omega
  clear hg hn
  clear hx hT h
  go_enter Tryz.func31, Tryz.ntmps31
  go_wp2_with (go_at_call 48; refine HCl.out.mono ?_; rintro e w1 ⟨rfl, hb1⟩)
  refine wp_loop_rounds 1 ?_
  rw [rounds_succ]
  go_wp2_with (first | (go_at_call 23; refine (HL.out _ hb1).mono ?_; rintro e w' ⟨rfl, rfl⟩) | (go_at_call 34; refine (HG.out _ hb1).mono ?_; rintro e w2 ⟨rfl, hb2⟩) | (go_at_call 24; refine (HZ.out _ hb2).mono ?_; rintro e w' ⟨rfl, rfl⟩))
  go_region_held3 (fun _ => True) (trivial) (first
    | (go_at_call 50; refine (HWi.out _ hb2.drew).mono ?_; rintro e w3 ⟨n', tp', rfl, hT3, hb3⟩)
    | (go_at_call 49; refine (HCa.out _ _ _ _ hb3 hT3).mono ?_; rintro e w4 ⟨rfl, rfl⟩))
  go_wp2
  go_ret3
  exact ⟨rfl, HEnd.out _ _ _ hb3 hT3⟩

set_option maxRecDepth 100000 in
set_option maxHeartbeats 1000000 in
theorem put_old {S : Nat → Prop} {w : World} {x : Nat} {l : List KV} {key : ByteArray} {v : Int} (hS : Open S w) (h : IndexAt S w x l) (hk : key.size ≤ 64) {u : Int} (hu : lk key.data.toList l = some u) :
    Calls Tryz.prog 31 #[.pointer (some ⟨x, 0, none⟩), .string key, .int .i64 v] w fun e w' => e = .returned (.tuple #[.int .i64 (valOr (lk key.data.toList l)), .bool (lk key.data.toList l).isSome, .int .i64 0]) ∧ IndexAt S w' x (ins key.data.toList v l) ∧ But x w w' := by
  obtain ⟨n, tp, hx, hT⟩ := h.tree
  have hlt := idx_lt hx
  have hfew : (ins key.data.toList v l).length ≤ 3000 := by rw [len_ins_some (srt_of hT) hu]; exact h.few
  have HCl : Hid (Calls Tryz.prog 48 #[.string key] w fun e w' => e = .returned (.string key) ∧ Below w.heap.size w w') := clone_any key w (by omega)
  have HL : Hid (∀ w1, Below w.heap.size w w1 → Calls Tryz.prog 23 #[.pointer (some ⟨x, 0, none⟩)] w1 fun e w' => e = .returned (.pointer tp) ∧ w' = w1) := fun w1 hb => load_any (idx_cell ((hb.block x hlt).trans hx)) (hT.on hb).ptr
  have HZ : Hid (∀ w1, Below w.heap.size w w1 → Calls Tryz.prog 24 #[.pointer tp] w1 fun e w' => e = .returned (.int .i64 l.length) ∧ w' = w1) := fun w1 hb => size_any (hT.on hb)
  have HWi : Hid (∀ w1, Below w.heap.size w w1 → Calls Tryz.prog 50 #[.pointer tp, .string key, .int .i64 v] w1 fun e w' => ∃ n' tp', e = .returned (.pointer tp') ∧ TreeN S n' w' tp' (ins key.data.toList v l) ∧ Below w.heap.size w w') := fun w1 hb => (withTree_any (hS.later hb) (hT.on hb) hk (by have := h.few; omega)).mono fun e w' he => by
    obtain ⟨n', tp', h1, h2, h3⟩ := he; exact ⟨n', tp', h1, h2, hb.trans (h3.mono hb.size)⟩
  have HCa : Hid (∀ w1 n' tq L, Below w.heap.size w w1 → TreeN S n' w1 tq L → Calls Tryz.prog 49 #[.pointer (some ⟨x, 0, none⟩), .pointer tp, .pointer tq] w1 fun e w' => e = .returned (.bool true) ∧ w' = w1.setCell ⟨x, 0, none⟩ (.pointer tq)) := fun w1 n' tq L hb hq => cas_any (idx_cell ((hb.block x hlt).trans hx)) (idx_free ((hb.block x hlt).trans hx)) (hT.on hb).ptr hq.ptr
  have HEnd : Hid (∀ w1 n' tq, Below w.heap.size w w1 → TreeN S n' w1 tq (ins key.data.toList v l) → IndexAt S (w1.setCell ⟨x, 0, none⟩ (.pointer tq)) x (ins key.data.toList v l) ∧ But x w (w1.setCell ⟨x, 0, none⟩ (.pointer tq))) := fun w1 n' tq hb hq => ⟨IndexAt.swap ((hb.block x hlt).trans hx) h.out hq hfew, (But.of_below hb).trans (But.set x w1 _)⟩
  have hg := fun w1 (hb : Below w.heap.size w w1) => (get_any (key := key) (hT.on hb) (by omega)).mono fun e w' he => (⟨he.1, hb.trans (he.2.mono hb.size)⟩ : e = .returned (.tuple #[.int .i64 (valOr (lk key.data.toList l)), .bool (lk key.data.toList l).isSome]) ∧ Below w.heap.size w w')
  rw [hu] at hg ⊢
  have HG : Hid (∀ w1, Below w.heap.size w w1 → Calls Tryz.prog 34 #[.pointer tp, .string key] w1 fun e w' => e = .returned (.tuple #[.int .i64 (valOr (some u)), .bool true]) ∧ Below w.heap.size w w') := hg
  clear hg hu
  clear hx hT h
  go_enter Tryz.func31, Tryz.ntmps31
  go_wp2_with (go_at_call 48; refine HCl.out.mono ?_; rintro e w1 ⟨rfl, hb1⟩)
  refine wp_loop_rounds 1 ?_
  rw [rounds_succ]
  go_wp2_with (first | (go_at_call 23; refine (HL.out _ hb1).mono ?_; rintro e w' ⟨rfl, rfl⟩) | (go_at_call 34; refine (HG.out _ hb1).mono ?_; rintro e w2 ⟨rfl, hb2⟩))
  go_region_held3 (fun _ => True) (trivial) (first
    | (go_at_call 50; refine (HWi.out _ hb2.drew).mono ?_; rintro e w3 ⟨n', tp', rfl, hT3, hb3⟩)
    | (go_at_call 49; refine (HCa.out _ _ _ _ hb3 hT3).mono ?_; rintro e w4 ⟨rfl, rfl⟩))
  go_wp2
  go_ret3
  exact ⟨rfl, HEnd.out _ _ _ hb3 hT3⟩

theorem withoutTree_any {S : Nat → Prop} {w : World} {n : Nat} {tp : Option Addr} {l : List KV} {key : ByteArray} (hS : Open S w) (hT : TreeN S n w tp l) (hk : key.size ≤ 9223372036854775807) (hm : l.length ≤ 1000000) :
    Calls Tryz.prog 69 #[.pointer tp, .string key] w fun e w' => ∃ n' tp', e = .returned (.pointer tp') ∧ TreeN S n' w' tp' (del key.data.toList l) ∧ Below w.heap.size w w' := by
  rcases hT with ⟨rfl, rfl⟩ | ⟨t, rfl, hR⟩
  · refine (without_nil key w).mono ?_
    rintro e w' ⟨rfl, rfl⟩
    exact ⟨0, none, rfl, .inl ⟨rfl, rfl⟩, Below.refl _ _⟩
  · refine (without_any n hS hR hk hm).mono ?_
    rintro e w' ⟨tp, rfl, h1, _, h2⟩
    exact ⟨n, tp, rfl, h1, h2⟩
set_option maxRecDepth 100000 in
set_option maxHeartbeats 1000000 in
theorem delete_none {S : Nat → Prop} {w : World} {x : Nat} {l : List KV} {key : ByteArray} (h : IndexAt S w x l) (hk : key.size ≤ 9223372036854775807) (hn : lk key.data.toList l = none) :
    Calls Tryz.prog 55 #[.pointer (some ⟨x, 0, none⟩), .string key] w fun e w' => e = .returned (.tuple #[.int .i64 (valOr none), .bool false]) ∧ Below w.heap.size w w' := by
  obtain ⟨n, tp, hx, hT⟩ := h.tree
  have HL : Hid (Calls Tryz.prog 23 #[.pointer (some ⟨x, 0, none⟩)] w fun e w' => e = .returned (.pointer tp) ∧ w' = w) := load_any (idx_cell hx) hT.ptr
  have hg := get_any (key := key) hT hk
  rw [hn] at hg
  have HG : Hid (Calls Tryz.prog 34 #[.pointer tp, .string key] w fun e w' => e = .returned (.tuple #[.int .i64 (valOr none), .bool false]) ∧ Below w.heap.size w w') := hg
  clear hx hT h hg hn
  go_enter Tryz.func55, Tryz.ntmps55
  go_wp2
  refine wp_loop_rounds 1 ?_
  rw [rounds_succ]
  go_wp2_with (first | (go_at_call 23; refine HL.out.mono ?_; rintro e w' ⟨rfl, rfl⟩) | (go_at_call 34; refine HG.out.mono ?_; rintro e w2 ⟨rfl, hb2⟩))
  go_quiet (fail)
  go_wp2
  go_ret2
  exact ⟨rfl, below_drewN'' hb2 _⟩
set_option maxRecDepth 100000 in
set_option maxHeartbeats 1000000 in
theorem delete_some {S : Nat → Prop} {w : World} {x : Nat} {l : List KV} {key : ByteArray} {u : Int} (hS : Open S w) (h : IndexAt S w x l) (hk : key.size ≤ 9223372036854775807) (hu : lk key.data.toList l = some u) :
    Calls Tryz.prog 55 #[.pointer (some ⟨x, 0, none⟩), .string key] w fun e w' => e = .returned (.tuple #[.int .i64 (valOr (some u)), .bool true]) ∧ IndexAt S w' x (del key.data.toList l) ∧ But x w w' := by
  obtain ⟨n, tp, hx, hT⟩ := h.tree
  have hlt := idx_lt hx
  have hfew : (del key.data.toList l).length ≤ 3000 := Nat.le_trans (len_del_le _ _) h.few
  have HL : Hid (∀ w1, Below w.heap.size w w1 → Calls Tryz.prog 23 #[.pointer (some ⟨x, 0, none⟩)] w1 fun e w' => e = .returned (.pointer tp) ∧ w' = w1) := fun w1 hb => load_any (idx_cell ((hb.block x hlt).trans hx)) (hT.on hb).ptr
  have HWo : Hid (∀ w1, Below w.heap.size w w1 → Calls Tryz.prog 69 #[.pointer tp, .string key] w1 fun e w' => ∃ n' tp', e = .returned (.pointer tp') ∧ TreeN S n' w' tp' (del key.data.toList l) ∧ Below w.heap.size w w') := fun w1 hb => (withoutTree_any (hS.later hb) (hT.on hb) hk (by have := h.few; omega)).mono fun e w' he => by
    obtain ⟨n', tp', h1, h2, h3⟩ := he; exact ⟨n', tp', h1, h2, hb.trans (h3.mono hb.size)⟩
  have HCa : Hid (∀ w1 n' tq L, Below w.heap.size w w1 → TreeN S n' w1 tq L → Calls Tryz.prog 49 #[.pointer (some ⟨x, 0, none⟩), .pointer tp, .pointer tq] w1 fun e w' => e = .returned (.bool true) ∧ w' = w1.setCell ⟨x, 0, none⟩ (.pointer tq)) := fun w1 n' tq L hb hq => cas_any (idx_cell ((hb.block x hlt).trans hx)) (idx_free ((hb.block x hlt).trans hx)) (hT.on hb).ptr hq.ptr
  have HEnd : Hid (∀ w1 n' tq, Below w.heap.size w w1 → TreeN S n' w1 tq (del key.data.toList l) → IndexAt S (w1.setCell ⟨x, 0, none⟩ (.pointer tq)) x (del key.data.toList l) ∧ But x w (w1.setCell ⟨x, 0, none⟩ (.pointer tq))) := fun w1 n' tq hb hq => ⟨IndexAt.swap ((hb.block x hlt).trans hx) h.out hq hfew, (But.of_below hb).trans (But.set x w1 _)⟩
  have hg := fun w1 (hb : Below w.heap.size w w1) => (get_any (key := key) (hT.on hb) hk).mono fun e w' he => (⟨he.1, hb.trans (he.2.mono hb.size)⟩ : e = .returned (.tuple #[.int .i64 (valOr (lk key.data.toList l)), .bool (lk key.data.toList l).isSome]) ∧ Below w.heap.size w w')
  rw [hu] at hg
  have HG : Hid (∀ w1, Below w.heap.size w w1 → Calls Tryz.prog 34 #[.pointer tp, .string key] w1 fun e w' => e = .returned (.tuple #[.int .i64 (valOr (some u)), .bool true]) ∧ Below w.heap.size w w') := hg
  have HB0 : Hid (Below w.heap.size w w) := Below.refl _ _
  clear hg hu hx hT h
  go_enter Tryz.func55, Tryz.ntmps55
  go_wp2
  refine wp_loop_rounds 1 ?_
  rw [rounds_succ]
  go_wp2_with (first | (go_at_call 23; refine (HL.out _ HB0.out).mono ?_; rintro e w' ⟨rfl, rfl⟩) | (go_at_call 34; refine (HG.out _ HB0.out).mono ?_; rintro e w2 ⟨rfl, hb2⟩))
  go_region_held3 (fun _ => True) (trivial) (first
    | (go_at_call 69; refine (HWo.out _ hb2.drew).mono ?_; rintro e w3 ⟨n', tp', rfl, hT3, hb3⟩)
    | (go_at_call 49; refine (HCa.out _ _ _ _ hb3 hT3).mono ?_; rintro e w4 ⟨rfl, rfl⟩))
  go_wp2
  go_ret2
  exact ⟨rfl, HEnd.out _ _ _ hb3 hT3⟩

end Go.Proofs.YtcgjppacnhmjlaaGreat
