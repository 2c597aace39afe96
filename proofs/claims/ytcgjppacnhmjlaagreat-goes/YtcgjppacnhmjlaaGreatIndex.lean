/- An index: what New, Get, Len, Shape, Put and Delete do to its pointer and its tree. -/
import Derived.Test.YtcgjppacnhmjlaaGreatAtom
import Derived.Shelf.LaysM
import Derived.Shelf.Strconv.Clone
set_option linter.unusedVariables false
set_option linter.unusedSimpArgs false
namespace Go.Proofs.YtcgjppacnhmjlaaGreat
open Go.RowKit Go.Shelf
attribute [local go_sem ↓] Go.wp_at_zero Go.wp_at_succ

def cloneRen : Go.Shelf.Ren := ⟨fun | 316 => 64 | n => n, fun | 9 => 9 | 3 => 3 | 4 => 4 | 37 => 114 | 0 => 0 | 127 => 115 | 5 => 5 | n => n, fun | n => n⟩
theorem cloneLays : Go.Proofs.LaysM.n316 Tryz.prog cloneRen := {
  mixed := by kernel_rfl
  f316 := Tryz.func64.trans (congrArg some (by kernel_rfl))
  t0 := Tryz.underlying0
  a0 := Tryz.isAgg0
  z0 := Tryz.sizeOf0
  v0 := Tryz.zeroValue0
  t3 := Tryz.underlying3
  a3 := Tryz.isAgg3
  z3 := Tryz.sizeOf3
  v3 := Tryz.zeroValue3
  t4 := Tryz.underlying4
  a4 := Tryz.isAgg4
  z4 := Tryz.sizeOf4
  v4 := Tryz.zeroValue4
  t9 := Tryz.underlying9
  a9 := Tryz.isAgg9
  z9 := Tryz.sizeOf9
  v9 := Tryz.zeroValue9
  t37 := Tryz.underlying114
  a37 := Tryz.isAgg114
  z37 := Tryz.sizeOf114
  v37 := Tryz.zeroValue114
  t127 := Tryz.underlying115
  a127 := Tryz.isAgg115
  z127 := Tryz.sizeOf115
  v127 := Tryz.zeroValue115
  t5 := Tryz.underlying5
  a5 := Tryz.isAgg5
  z5 := Tryz.sizeOf5
  v5 := Tryz.zeroValue5
  i0 := by kernel_rfl
  i3 := by kernel_rfl
  i4 := by kernel_rfl
  i5 := by kernel_rfl
  i9 := by kernel_rfl
  i37 := by kernel_rfl
  i127 := by kernel_rfl }
theorem liteClone_any (s : ByteArray) (w : World) (h : s.size ≤ 281474976710656) : Calls Tryz.prog 64 #[.string s] w fun e w' => e = .returned (.string s) ∧ Below w.heap.size w w' := Any.stringslite_Clone cloneLays s w h
theorem clone_any (s : ByteArray) (w : World) (h : s.size ≤ 281474976710656) : Calls Tryz.prog 48 #[.string s] w fun e w' => e = .returned (.string s) ∧ Below w.heap.size w w' := by
  go_enter Tryz.func48, Tryz.ntmps48
  go_wp2_with (go_at_call 64; refine (liteClone_any _ _ h).mono ?_; rintro e w' ⟨rfl, hb⟩)
  go_ret
  exact ⟨rfl, hb⟩

/-- Outside block x the world holds what it held. -/
structure But (x : Nat) (w w' : World) : Prop where
  os : w'.os = w.os
  tape : w'.tape = w.tape
  output : w'.output = w.output
  size : w.heap.size ≤ w'.heap.size
  block : ∀ k, k < w.heap.size → k ≠ x → w'.heap[k]? = w.heap[k]?

/-- The index at block x has the pairs l; its tree lies within S, x does not. -/
structure IndexAt (S : Nat → Prop) (w : World) (x : Nat) (l : List KV) : Prop where
  tree : ∃ n tp, w.heap[x]? = some (.cells #[.pointer tp] 64 (0, 0)) ∧ TreeN S n w tp l
  out : ¬ S x
  few : l.length ≤ 3000

theorem new_any (w : World) : Calls Tryz.prog 10 #[] w fun e w' => e = .returned (.pointer (some ⟨w.heap.size, 0, none⟩)) ∧ w' = w.alloc (.cells #[.pointer none] 64) := by
  go_enter Tryz.func10, Tryz.ntmps10
  go_wp2
  go_ret
  exact ⟨rfl, rfl⟩

theorem size_any {S : Nat → Prop} {n : Nat} {w : World} {tp : Option Addr} {l : List KV} (h : TreeN S n w tp l) : Calls Tryz.prog 24 #[.pointer tp] w fun e w' => e = .returned (.int .i64 l.length) ∧ w' = w := by
  rcases h with ⟨rfl, rfl⟩ | ⟨t, rfl, h⟩
  · exact size_nil w
  · exact size_some t _ w h.size
theorem withTree_any {S : Nat → Prop} {w : World} {n : Nat} {tp : Option Addr} {l : List KV} {key : ByteArray} {v : Int} (hS : Open S w) (hT : TreeN S n w tp l) (hk : key.size ≤ 64) (hm : l.length + 1 ≤ 1000000) :
    Calls Tryz.prog 50 #[.pointer tp, .string key, .int .i64 v] w fun e w' => ∃ n' tp', e = .returned (.pointer tp') ∧ TreeN S n' w' tp' (ins key.data.toList v l) ∧ Below w.heap.size w w' := by
  have hb := below_alloc w (.cells #[.int .i64 v] 3)
  have hw : Calls Tryz.prog 66 #[.pointer tp, .string key, .pointer (some ⟨w.heap.size, 0, none⟩)] (w.alloc (.cells #[.int .i64 v] 3)) (fun e w' => ∃ n' t', e = .returned (.pointer (some ⟨t', 0, none⟩)) ∧ RepN S n' w' t' (ins key.data.toList v l) ∧ Below w.heap.size w w') := by
    have fin : ∀ n' e w', Answers S n' (ins key.data.toList v l) (w.alloc (.cells #[.int .i64 v] 3)) e w' → ∃ n' t', e = .returned (.pointer (some ⟨t', 0, none⟩)) ∧ RepN S n' w' t' (ins key.data.toList v l) ∧ Below w.heap.size w w' := by
      rintro n' e w' ⟨t', h1, h2, h3⟩
      exact ⟨n', t', h1, h2, hb.trans (h3.mono hb.size)⟩
    rcases hT with ⟨rfl, rfl⟩ | ⟨t, rfl, hR⟩
    · exact (with_nil (hS.later hb) hk (hS _ (Nat.le_refl _)) (by simp)).mono (fin _)
    · exact (with_any n (hS.later hb) (hR.on hb) hk (hS _ (Nat.le_refl _)) (by simp) hm).mono (fin _)
  have HW : Hid (Calls Tryz.prog 66 #[.pointer tp, .string key, .pointer (some ⟨w.heap.size, 0, none⟩)] (w.alloc (.cells #[.int .i64 v] 3)) (fun e w' => ∃ n' t', e = .returned (.pointer (some ⟨t', 0, none⟩)) ∧ RepN S n' w' t' (ins key.data.toList v l) ∧ Below w.heap.size w w')) := hw
  clear hw hT
  go_enter Tryz.func50, Tryz.ntmps50
  go_wp2_with (go_at_call 66; refine HW.out.mono ?_; rintro e w' ⟨n', t', rfl, h1, h2⟩)
  go_ret
  exact ⟨n', _, rfl, .inr ⟨t', rfl, h1⟩, h2⟩

theorem idx_cell {w : World} {x : Nat} {tp : Option Addr} (h : w.heap[x]? = some (.cells #[.pointer tp] 64 (0, 0))) : w.cell? ⟨x, 0, none⟩ = some (.pointer tp) := by simp [World.cell?, h]
theorem idx_free {w : World} {x : Nat} {tp : Option Addr} (h : w.heap[x]? = some (.cells #[.pointer tp] 64 (0, 0))) : w.frozen? ⟨x, 0, none⟩ = false := by simp [World.frozen?, h]
theorem idx_lt {w : World} {x : Nat} {ob : Obj} (h : w.heap[x]? = some ob) : x < w.heap.size := (Array.getElem?_eq_some_iff.mp h).1

set_option maxRecDepth 100000 in
set_option maxHeartbeats 400000 in
theorem indexGet_any {S : Nat → Prop} {w : World} {x : Nat} {l : List KV} {key : ByteArray} (h : IndexAt S w x l) (hk : key.size ≤ 9223372036854775807) :
    Calls Tryz.prog 17 #[.pointer (some ⟨x, 0, none⟩), .string key] w fun e w' => e = .returned (.tuple #[.int .i64 (valOr (lk key.data.toList l)), .bool (lk key.data.toList l).isSome]) ∧ Below w.heap.size w w' := by
  obtain ⟨n, tp, hx, hT⟩ := h.tree
  have HL : Hid (Calls Tryz.prog 23 #[.pointer (some ⟨x, 0, none⟩)] w fun e w' => e = .returned (.pointer tp) ∧ w' = w) := load_any (idx_cell hx) hT.ptr
  have HG : Hid (Calls Tryz.prog 34 #[.pointer tp, .string key] w fun e w' => e = .returned (.tuple #[.int .i64 (valOr (lk key.data.toList l)), .bool (lk key.data.toList l).isSome]) ∧ Below w.heap.size w w') := get_any hT hk
  clear hx hT h
  generalize lk key.data.toList l = r at *
  go_enter Tryz.func17, Tryz.ntmps17
  go_wp2_with (first | (go_at_call 23; refine HL.out.mono ?_; rintro e w' ⟨rfl, rfl⟩) | (go_at_call 34; refine HG.out.mono ?_; rintro e w' ⟨rfl, hb⟩))
  go_ret2
  exact ⟨rfl, hb⟩
set_option maxRecDepth 100000 in
set_option maxHeartbeats 400000 in
theorem indexLen_any {S : Nat → Prop} {w : World} {x : Nat} {l : List KV} (h : IndexAt S w x l) :
    Calls Tryz.prog 12 #[.pointer (some ⟨x, 0, none⟩)] w fun e w' => e = .returned (.int .i64 l.length) ∧ w' = w := by
  obtain ⟨n, tp, hx, hT⟩ := h.tree
  have HL : Hid (Calls Tryz.prog 23 #[.pointer (some ⟨x, 0, none⟩)] w fun e w' => e = .returned (.pointer tp) ∧ w' = w) := load_any (idx_cell hx) hT.ptr
  have HG : Hid (Calls Tryz.prog 24 #[.pointer tp] w fun e w' => e = .returned (.int .i64 l.length) ∧ w' = w) := size_any hT
  clear hx hT h
  go_enter Tryz.func12, Tryz.ntmps12
  go_wp2_with (first | (go_at_call 23; refine HL.out.mono ?_; rintro e w' ⟨rfl, rfl⟩) | (go_at_call 24; refine HG.out.mono ?_; rintro e w' ⟨rfl, rfl⟩))
  go_ret
  exact ⟨rfl, rfl⟩

end Go.Proofs.YtcgjppacnhmjlaaGreat
