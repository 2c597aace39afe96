/- awake: an index keeps what it is given (of structs, at one key): for a program that has no index of texts. -/
import Derived.Test.YtcgjppacnhmjlaaDoorTupG
import Derived.Laws.LoneSync
import Derived.Lib.Builder
import Derived.Shelf.LaysM
import Derived.Shelf.Strconv.Clone
set_option linter.unusedVariables false
set_option linter.unusedSimpArgs false
namespace Go.Proofs.YtcgjppacnhmjlaaDoor
open Go.RowKit Go.Shelf
attribute [local go_sem ↓] Go.wp_at_zero Go.wp_at_succ

theorem run_loadPointer {a : Addr} {p : Option Addr} {w : World} (hc : w.cell? a = some (.pointer p)) : (callFunc 51 #[.pointer (some a)]).run Tryd.prog w = .ok (.value (.pointer p)) w := by
  rw [run_callFunc_extern (e := Extern.Atomic.loadT .ptr) Tryd.func51 (by kernel_rfl) (by kernel_rfl) (by kernel_rfl) (by kernel_rfl)]
  change (Sem.run Tryd.prog (do Extern.Atomic.read .ptr (← asAddr (.pointer (some a)))) w).andThen _ = _
  simp [Extern.Atomic.read, asAddr, hc, Result.andThen]
theorem samePointer_self (p : Option Addr) (w : World) : (samePointer p p).run Tryd.prog w = .ok true w := by
  cases p with
  | none => rfl
  | some a => simp [samePointer, sameAddr]
theorem cas_body (x y z : Value) : ∃ m1 m2 : String, Extern.Atomic.casT .ptr #[x, y, z] = (do
    let a' ← asAddr x
    if ← Extern.Atomic.touchesFrozen a' then unsupported (.unsafePointer m1)
    let eq ← match Extern.Atomic.T.ptr, ← Extern.Atomic.read .ptr a', y with
      | _, .int _ x, .int _ y => pure (x == y)
      | .ptr, .pointer x, .pointer y => samePointer x y
      | .int _, .pointer (some _), .int _ 0 | .int _, .int _ 0, .pointer (some _) => pure false
      | .int _, .pointer (some _), _ | .int _, _, .pointer (some _) => unsupported .addressObserved
      | _, _, _ => stuck m2
    if eq then store a' z .atomic
    pure (Value.bool eq)) := ⟨_, _, rfl⟩
theorem run_casPointer {a : Addr} {p q : Option Addr} {w : World} (hc : w.cell? a = some (.pointer p)) (hz : w.frozen? a = false) :
    (callFunc 55 #[.pointer (some a), .pointer p, .pointer q]).run Tryd.prog w = .ok (.value (.bool true)) (w.setCell a (.pointer q)) := by
  rw [run_callFunc_extern (e := Extern.Atomic.casT .ptr) Tryd.func55 (by kernel_rfl) (by kernel_rfl) (by kernel_rfl) (by kernel_rfl)]
  obtain ⟨m1, m2, h⟩ := cas_body (.pointer (some a)) (.pointer p) (.pointer q)
  rw [h]
  simp [Extern.Atomic.touchesFrozen, Extern.Atomic.read, asAddr, viewAt, World.shape?_isSome_of_cell? hc, hc, hz, run_store Tryd.prog w a (.pointer q) .atomic rfl, Result.andThen, samePointer_self]

def cloneRen : Go.Shelf.Ren := ⟨fun | 316 => 50 | n => n, fun | 9 => 9 | 3 => 3 | 4 => 4 | 37 => 61 | 0 => 0 | 127 => 99 | 5 => 5 | n => n, fun | n => n⟩
theorem cloneLays : Go.Proofs.LaysM.n316 Tryd.prog cloneRen := {
  mixed := by kernel_rfl
  f316 := Tryd.func50.trans (congrArg some (by kernel_rfl))
  t0 := Tryd.underlying0
  a0 := Tryd.isAgg0
  z0 := Tryd.sizeOf0
  v0 := Tryd.zeroValue0
  t3 := Tryd.underlying3
  a3 := Tryd.isAgg3
  z3 := Tryd.sizeOf3
  v3 := Tryd.zeroValue3
  t4 := Tryd.underlying4
  a4 := Tryd.isAgg4
  z4 := Tryd.sizeOf4
  v4 := Tryd.zeroValue4
  t9 := Tryd.underlying9
  a9 := Tryd.isAgg9
  z9 := Tryd.sizeOf9
  v9 := Tryd.zeroValue9
  t37 := Tryd.underlying61
  a37 := Tryd.isAgg61
  z37 := Tryd.sizeOf61
  v37 := Tryd.zeroValue61
  t127 := Tryd.underlying99
  a127 := Tryd.isAgg99
  z127 := Tryd.sizeOf99
  v127 := Tryd.zeroValue99
  t5 := Tryd.underlying5
  a5 := Tryd.isAgg5
  z5 := Tryd.sizeOf5
  v5 := Tryd.zeroValue5
  i0 := by kernel_rfl
  i3 := by kernel_rfl
  i4 := by kernel_rfl
  i5 := by kernel_rfl
  i9 := by kernel_rfl
  i37 := by kernel_rfl
  i127 := by kernel_rfl }
theorem liteClone_any (s : ByteArray) (w : World) (h : s.size ≤ 281474976710656) : Calls Tryd.prog 50 #[.string s] w fun e w' => e = .returned (.string s) ∧ Below w.heap.size w w' := Any.stringslite_Clone cloneLays s w h
theorem clone_any (s : ByteArray) (w : World) (h : s.size ≤ 281474976710656) : Calls Tryd.prog 34 #[.string s] w fun e w' => e = .returned (.string s) ∧ Below w.heap.size w w' := by
  go_enter Tryd.func34, Tryd.ntmps34
  go_wp2_with (go_at_call 50; refine (liteClone_any _ _ h).mono ?_; rintro e w' ⟨rfl, hb⟩)
  go_ret
  exact ⟨rfl, hb⟩

theorem idx_lt {w : World} {x : Nat} {ob : Obj} (h : w.heap[x]? = some ob) : x < w.heap.size := (Array.getElem?_eq_some_iff.mp h).1
theorem below_alloc (w : World) (ob : Obj) : Below w.heap.size w (w.alloc ob) := belowA w ob
theorem old_new (w : World) (o p : Obj) : ((w.alloc o).alloc p).heap[w.heap.size]? = some o := by
  rw [Below.heap_alloc _ _ _ (by simp)]; exact heap_alloc_new w o
/-- Outside block x the world holds what it held. -/
structure But (x : Nat) (w w' : World) : Prop where
  os : w'.os = w.os
  tape : w'.tape = w.tape
  output : w'.output = w.output
  size : w.heap.size ≤ w'.heap.size
  block : ∀ k, k < w.heap.size → k ≠ x → w'.heap[k]? = w.heap[k]?


theorem But.of_below {x : Nat} {w w' : World} (h : Below w.heap.size w w') : But x w w' := ⟨h.os, h.tape, h.output, h.size, fun k hk _ => h.block k hk⟩
theorem But.trans {x : Nat} {a b c : World} (h : But x a b) (k : But x b c) : But x a c :=
  ⟨k.os.trans h.os, k.tape.trans h.tape, k.output.trans h.output, Nat.le_trans h.size k.size, fun i hi hx => (k.block i (Nat.lt_of_lt_of_le hi h.size) hx).trans (h.block i hi hx)⟩
theorem But.set (x : Nat) (w : World) (v : Value) : But x w (w.setCell ⟨x, 0, none⟩ v) := ⟨rfl, rfl, rfl, by simp [World.setCell], fun k _ hx => Below.heap_setCell _ _ _ _ hx⟩
def pl (x y : Int) (s : ByteArray) : Value := .agg #[.int .i64 x, .int .i64 y, .string s]
theorem infoPT : (Tryd.prog.info? 85).map (fun i => (i.zero, i.size, i.bytes)) = some (some (.agg #[.string ⟨#[]⟩, .pointer none, .slice none 0 0, .int .i64 0]), 4, 56) := by kernel_rfl
def PPtrOk (w : World) (p : Option Addr) : Prop := p = none ∨ ∃ t, p = some ⟨t, 0, none⟩ ∧ w.shape? t = some (85, 4)
theorem plies : liesAt Tryd.prog Tryd.prog.depth 85 (4 / Tryd.prog.cellsOf 85) 0 85 1 = true := by kernel_rfl
theorem pconv_back {p : Option Addr} {w : World} (h : PPtrOk w p) : (convert 75 71 (.pointer p)).run Tryd.prog w = .ok (.pointer p) w := by
  obtain ⟨i0, hi0, _⟩ := info_parts infoPT
  rcases h with rfl | ⟨t, rfl, h⟩
  · simp [convert, run_underlying Tryd.underlying75, run_underlying Tryd.underlying71, Conv.unsafePointer]
  · exact Lib.run_from_unsafe w _ Tryd.underlying75 Tryd.underlying71 hi0 h plies
theorem pconv_to {p : Option Addr} {w : World} (h : PPtrOk w p) : (convert 71 75 (.pointer p)).run Tryd.prog w = .ok (.pointer p) w := by
  obtain ⟨i0, hi0, _, h4, _⟩ := info_parts infoPT
  rcases h with rfl | ⟨t, rfl, h⟩
  · simp [convert, run_underlying Tryd.underlying75, run_underlying Tryd.underlying71, Conv.unsafePointer]
  · exact Lib.run_to_unsafe w _ Tryd.underlying71 Tryd.underlying75 hi0 (by rw [h4]; decide) h (by show 0 < 4; decide)
set_option maxRecDepth 100000 in
set_option maxHeartbeats 400000 in
theorem pload_any {xb : Nat} {p : Option Addr} {w : World} (hc : w.cell? ⟨xb, 0, none⟩ = some (.pointer p)) (hp : PPtrOk w p) : Calls Tryd.prog 35 #[.pointer (some ⟨xb, 0, none⟩)] w fun e w' => e = .returned (.pointer p) ∧ w' = w := by
  have hl := run_loadPointer hc
  have hcv := pconv_back hp
  clear hp
  go_enter Tryd.func35, Tryd.ntmps35
  go_wp2
  go_ret
  exact ⟨rfl, rfl⟩
set_option maxRecDepth 100000 in
set_option maxHeartbeats 400000 in
theorem pcas_any {xb : Nat} {p q : Option Addr} {w : World} (hc : w.cell? ⟨xb, 0, none⟩ = some (.pointer p)) (hz : w.frozen? ⟨xb, 0, none⟩ = false) (hp : PPtrOk w p) (hq : PPtrOk w q) :
    Calls Tryd.prog 38 #[.pointer (some ⟨xb, 0, none⟩), .pointer p, .pointer q] w fun e w' => e = .returned (.bool true) ∧ w' = w.setCell ⟨xb, 0, none⟩ (.pointer q) := by
  have hl := run_casPointer (q := q) hc hz
  have hcv := pconv_to hp
  have hcq := pconv_to hq
  clear hp hq hc hz
  go_enter Tryd.func38, Tryd.ntmps38
  go_wp2
  go_ret
  exact ⟨rfl, rfl⟩
theorem pnew_any (w : World) : Calls Tryd.prog 20 #[] w fun e w' => e = .returned (.pointer (some ⟨w.heap.size, 0, none⟩)) ∧ w' = w.alloc (.cells #[.pointer none] 79) := by
  go_enter Tryd.func20, Tryd.ntmps20
  go_wp2
  go_ret
  exact ⟨rfl, rfl⟩
theorem psize_nil (w : World) : Calls Tryd.prog 37 #[.pointer none] w fun e w' => e = .returned (.int .i64 0) ∧ w' = w := by
  go_enter Tryd.func37, Tryd.ntmps37
  go_wp2
  go_ret
  exact ⟨rfl, rfl⟩
theorem psize_some (b : Nat) (n : Int) (w : World) (h : w.cell? ⟨b, 3, none⟩ = some (.int .i64 n)) : Calls Tryd.prog 37 #[.pointer (some ⟨b, 0, none⟩)] w fun e w' => e = .returned (.int .i64 n) ∧ w' = w := by
  go_enter Tryd.func37, Tryd.ntmps37
  go_wp2
  go_ret
  exact ⟨rfl, rfl⟩
set_option maxHeartbeats 400000 in
theorem pget_nil (key : ByteArray) (w : World) : Calls Tryd.prog 36 #[.pointer none, .string key] w fun e w' => e = .returned (.tuple #[pl 0 0 ⟨#[]⟩, .bool false]) ∧ Below w.heap.size w w' := by
  go_enter Tryd.func36, Tryd.ntmps36
  go_wp2
  refine wp_loop_rounds 1 ?_
  rw [rounds_succ]
  go_wp2
  exact bodyPost_ret (v := .tuple #[pl 0 0 ⟨#[]⟩, .bool false]) (by simp [results, Tryd.results36, go_sem, pl]) rfl ⟨rfl, ((Below.refl _ _).alloc (Nat.le_refl _) _).alloc (by simp) _⟩
set_option maxHeartbeats 400000 in
theorem pjoined_nil (p : ByteArray) (vb : Nat) (w : World) : Calls Tryd.prog 64 #[.string p, .pointer (some ⟨vb, 0, none⟩), .slice none 0 0] w fun e w' => e = .returned (.pointer (some ⟨w.heap.size, 0, none⟩)) ∧ w' = w.alloc (.cells #[.string p, .pointer (some ⟨vb, 0, none⟩), .slice none 0 0, .int .i64 1] 85) := by
  go_enter Tryd.func64, Tryd.ntmps64
  go_wp2
  refine wp_loop_rounds 1 ?_
  rw [rounds_succ]
  go_wp2
  go_ret
  exact ⟨rfl, rfl⟩
set_option maxHeartbeats 400000 in
theorem pwith_nil (key : ByteArray) (vb : Nat) (w : World) : Calls Tryd.prog 56 #[.pointer none, .string key, .pointer (some ⟨vb, 0, none⟩)] w fun e w' => e = .returned (.pointer (some ⟨w.heap.size, 0, none⟩)) ∧ w' = w.alloc (.cells #[.string key, .pointer (some ⟨vb, 0, none⟩), .slice none 0 0, .int .i64 1] 85) := by
  go_enter Tryd.func56, Tryd.ntmps56
  go_wp2_with (go_at_call 64; refine (pjoined_nil _ _ _).mono ?_; rintro e w' ⟨rfl, rfl⟩)
  go_ret
  exact ⟨rfl, rfl⟩

/-- A leaf with a struct for its value. -/
structure PLeaf (w : World) (t vb : Nat) (key : ByteArray) (x y : Int) (s : ByteArray) : Prop where
  blk : w.heap[t]? = some (.cells #[.string key, .pointer (some ⟨vb, 0, none⟩), .slice none 0 0, .int .i64 1] 85 (0, 0))
  val : w.heap[vb]? = some (.cells #[.int .i64 x, .int .i64 y, .string s] 49 (0, 0))

set_option maxHeartbeats 400000 in
theorem pwithTree_nil (key : ByteArray) (x y : Int) (s : ByteArray) (w : World) : Calls Tryd.prog 39 #[.pointer none, .string key, pl x y s] w fun e w' => ∃ t vb, e = .returned (.pointer (some ⟨t, 0, none⟩)) ∧ w.heap.size ≤ t ∧ w.heap.size ≤ vb ∧ PLeaf w' t vb key x y s ∧ Below w.heap.size w w' := by
  unfold pl
  go_enter Tryd.func39, Tryd.ntmps39
  go_wp2_with (go_at_call 56; refine (pwith_nil _ _ _).mono ?_; rintro e w' ⟨rfl, rfl⟩)
  go_ret
  refine ⟨_, _, rfl, ?_, ?_, ⟨by have := heap_alloc_new (w.alloc (.cells #[.int .i64 x, .int .i64 y, .string s] 49)) (.cells #[.string key, .pointer (some ⟨w.heap.size, 0, none⟩), .slice none 0 0, .int .i64 1] 85); simpa using this, old_new _ _ _⟩, ((Below.refl _ _).alloc (Nat.le_refl _) _).alloc (by simp) _⟩
  · simp
  · simp

theorem pl_cells {w : World} {b : Nat} {x y : Int} {s : ByteArray} (h : w.heap[b]? = some (.cells #[.int .i64 x, .int .i64 y, .string s] 49 (0, 0))) : w.cell? ⟨b, 0, none⟩ = some (.int .i64 x) ∧ w.cell? ⟨b, 1, none⟩ = some (.int .i64 y) ∧ w.cell? ⟨b, 2, none⟩ = some (.string s) ∧ ∀ o, w.frozen? ⟨b, o, none⟩ = false := by
  simp [World.cell?, World.frozen?, h]
theorem PLeaf.cells {w : World} {t vb : Nat} {key : ByteArray} {x y : Int} {s : ByteArray} (h : PLeaf w t vb key x y s) : w.cell? ⟨t, 0, none⟩ = some (.string key) ∧ w.cell? ⟨t, 1, none⟩ = some (.pointer (some ⟨vb, 0, none⟩)) ∧ w.cell? ⟨t, 3, none⟩ = some (.int .i64 1) ∧ w.cell? ⟨vb, 0, none⟩ = some (.int .i64 x) ∧ w.cell? ⟨vb, 1, none⟩ = some (.int .i64 y) ∧ w.cell? ⟨vb, 2, none⟩ = some (.string s) := by
  simp [World.cell?, h.blk, h.val]
theorem PLeaf.later {w w' : World} {t vb : Nat} {key : ByteArray} {x y : Int} {s : ByteArray} (h : PLeaf w t vb key x y s) (hb : Below w.heap.size w w') : PLeaf w' t vb key x y s :=
  ⟨(hb.block t (idx_lt h.blk)).trans h.blk, (hb.block vb (idx_lt h.val)).trans h.val⟩
set_option maxHeartbeats 400000 in
theorem pown_some {w : World} {t vb : Nat} {key : ByteArray} {x y : Int} {s : ByteArray} (h : PLeaf w t vb key x y s) : Calls Tryd.prog 53 #[.pointer (some ⟨t, 0, none⟩)] w fun e w' => e = .returned (.tuple #[pl x y s, .bool true]) ∧ Below w.heap.size w w' := by
  have h1 := h.later (below_alloc w (.cells #[.int .i64 0, .int .i64 0, .string ⟨#[]⟩] 49))
  obtain ⟨c0, c1, c3, d0, d1, d2⟩ := h1.cells
  clear h1 h
  go_enter Tryd.func53, Tryd.ntmps53
  go_wp2
  exact bodyPost_ret (v := .tuple #[pl x y s, .bool true]) (by simp [results, Tryd.results53, go_sem, pl]) rfl ⟨rfl, (Below.refl _ _).alloc (Nat.le_refl _) _⟩
set_option maxRecDepth 100000 in
set_option maxHeartbeats 400000 in
theorem pget_leaf {w : World} {t vb : Nat} {key : ByteArray} {x y : Int} {s : ByteArray} (h : PLeaf w t vb key x y s) (hk : key.size ≤ 64) : Calls Tryd.prog 36 #[.pointer (some ⟨t, 0, none⟩), .string key] w fun e w' => e = .returned (.tuple #[pl x y s, .bool true]) ∧ Below w.heap.size w w' := by
  have h1 := h.later (below_alloc w (.cells #[.int .i64 0, .int .i64 0, .string ⟨#[]⟩] 49))
  obtain ⟨c0, c1, c3, d0, d1, d2⟩ := h1.cells
  have HP : Hid (∀ w1, Calls Tryd.prog 52 #[.string key, .string key] w1 fun e w' => e = .returned (.bool true) ∧ w' = w1) := fun w1 => (hasPrefix_any key key w1 (by unfold maxLen; omega) (by unfold maxLen; omega)).mono fun e w' he => ⟨by rw [he.1, show Lib.hasPrefix key.data.toList key.data.toList = true from List.isPrefixOf_iff_prefix.mpr (List.prefix_refl _)], he.2⟩
  have HO : Hid (Calls Tryd.prog 53 #[.pointer (some ⟨t, 0, none⟩)] (w.alloc (.cells #[.int .i64 0, .int .i64 0, .string ⟨#[]⟩] 49)) fun e w' => e = .returned (.tuple #[pl x y s, .bool true]) ∧ Below (w.alloc (.cells #[.int .i64 0, .int .i64 0, .string ⟨#[]⟩] 49)).heap.size (w.alloc (.cells #[.int .i64 0, .int .i64 0, .string ⟨#[]⟩] 49)) w') := pown_some h1
  clear h1 h
  go_enter Tryd.func36, Tryd.ntmps36
  go_wp2
  refine wp_loop_rounds 1 ?_
  rw [rounds_succ]
  go_wp2_with (first | (go_at_call 52; refine (HP.out _).mono ?_; rintro e w' ⟨rfl, rfl⟩) | (go_at_call 53; refine HO.out.mono ?_; rintro e w3 ⟨rfl, hb3⟩; have hr : w3.heap[w.heap.size]? = some (.cells #[.int .i64 0, .int .i64 0, .string ⟨#[]⟩] 49 (0, 0)) := (hb3.block _ (by simp)).trans (heap_alloc_new w _); obtain ⟨r0, r1, r2, fr⟩ := pl_cells hr; have HB : Hid (Below w.heap.size w w3) := (below_alloc w _).trans (hb3.mono (below_alloc w _).size); clear hb3 hr; unfold pl))
  refine bodyPost_ret (v := .tuple #[pl x y s, .bool true]) (by simp [results, Tryd.results36, go_sem, pl, r0, r1, r2]) rfl ⟨rfl, ?_⟩
  exact ((HB.out.setCell (by simp) _).setCell (by simp) _).setCell (by simp) _

theorem idx_cell' {w : World} {x : Nat} {tp : Option Addr} {ty : TypeId} (h : w.heap[x]? = some (.cells #[.pointer tp] ty (0, 0))) : w.cell? ⟨x, 0, none⟩ = some (.pointer tp) := by simp [World.cell?, h]
theorem idx_free' {w : World} {x : Nat} {tp : Option Addr} {ty : TypeId} (h : w.heap[x]? = some (.cells #[.pointer tp] ty (0, 0))) : w.frozen? ⟨x, 0, none⟩ = false := by simp [World.frozen?, h]
theorem set_cell_far {w : World} {x b o : Nat} {u v : Value} (hb : b ≠ x) (h : w.cell? ⟨b, o, none⟩ = some v) : (w.setCell ⟨x, 0, none⟩ u).cell? ⟨b, o, none⟩ = some v :=
  (World.cell?_of_block (w := w) (a := ⟨b, o, none⟩) (Below.heap_setCell _ _ _ _ hb)).trans h
theorem set_blk_far {w : World} {x b : Nat} {u : Value} {ob : Obj} (hb : b ≠ x) (h : w.heap[b]? = some ob) : (w.setCell ⟨x, 0, none⟩ u).heap[b]? = some ob := (Below.heap_setCell _ _ _ _ hb).trans h
theorem set_idx' {w : World} {x : Nat} {tp tq : Option Addr} {ty : TypeId} (h : w.heap[x]? = some (.cells #[.pointer tp] ty (0, 0))) : (w.setCell ⟨x, 0, none⟩ (.pointer tq)).heap[x]? = some (.cells #[.pointer tq] ty (0, 0)) := by
  simp only [World.setCell, Array.getElem?_modify, if_true, h, Option.map_some]
  simp
theorem set_three {w : World} {r k : Nat} {a b c : Value} {ob : Obj} (hk : k ≠ r) (h : w.heap[k]? = some ob) : (((w.setCell ⟨r, 0, none⟩ a).setCell ⟨r, 1, none⟩ b).setCell ⟨r, 2, none⟩ c).heap[k]? = some ob := by
  rw [Below.heap_setCell _ _ _ _ hk, Below.heap_setCell _ _ _ _ hk, Below.heap_setCell _ _ _ _ hk]; exact h
theorem But.three {x r : Nat} {w w' : World} {a b c : Value} (h : But x w w') (hr : w.heap.size ≤ r) : But x w (((w'.setCell ⟨r, 0, none⟩ a).setCell ⟨r, 1, none⟩ b).setCell ⟨r, 2, none⟩ c) :=
  ⟨h.os, h.tape, h.output, by simp [World.setCell]; exact h.size, fun k hk hx => by
    rw [Below.heap_setCell _ _ _ _ (by show k ≠ r; omega), Below.heap_setCell _ _ _ _ (by show k ≠ r; omega), Below.heap_setCell _ _ _ _ (by show k ≠ r; omega)]; exact h.block k hk hx⟩
theorem But.below {x B : Nat} {w w' : World} (h : But x w w') (hx : B ≤ x) (hB : B ≤ w.heap.size) : Below B w w' :=
  ⟨h.os, h.tape, h.output, h.size, fun k hk => h.block k (by omega) (by omega)⟩
theorem blk_later {w w' : World} {b : Nat} {ob : Obj} (hb : Below w.heap.size w w') (h : w.heap[b]? = some ob) : w'.heap[b]? = some ob := (hb.block b (idx_lt h)).trans h
set_option maxRecDepth 100000 in
set_option maxHeartbeats 1000000 in
theorem pput_first {w : World} {x : Nat} {key ps : ByteArray} {px py : Int} (hx : w.heap[x]? = some (.cells #[.pointer none] 79 (0, 0))) (hk : key.size ≤ 64) :
    Calls Tryd.prog 21 #[.pointer (some ⟨x, 0, none⟩), .string key, pl px py ps] w fun e w' => e = .returned (.tuple #[pl 0 0 ⟨#[]⟩, .bool false, .int .i64 0]) ∧ ∃ t vb, w'.heap[x]? = some (.cells #[.pointer (some ⟨t, 0, none⟩)] 79 (0, 0)) ∧ PLeaf w' t vb key px py ps ∧ But x w w' := by
  have hb3 : Below w.heap.size w (((w.alloc (.cells #[.int .i64 px, .int .i64 py, .string ps] 49)).alloc (.cells #[.int .i64 0, .int .i64 0, .string ⟨#[]⟩] 49)).alloc (.cells #[.int .i64 0, .int .i64 0, .string ⟨#[]⟩] 49)) := (((Below.refl _ _).alloc (Nat.le_refl _) _).alloc (by simp) _).alloc (by simp; omega) _
  have v3 : (((w.alloc (.cells #[.int .i64 px, .int .i64 py, .string ps] 49)).alloc (.cells #[.int .i64 0, .int .i64 0, .string ⟨#[]⟩] 49)).alloc (.cells #[.int .i64 0, .int .i64 0, .string ⟨#[]⟩] 49)).heap[w.heap.size]? = some (.cells #[.int .i64 px, .int .i64 py, .string ps] 49 (0, 0)) := by
    rw [Below.heap_alloc _ _ _ (by simp; omega)]; exact old_new _ _ _
  have r3 : (((w.alloc (.cells #[.int .i64 px, .int .i64 py, .string ps] 49)).alloc (.cells #[.int .i64 0, .int .i64 0, .string ⟨#[]⟩] 49)).alloc (.cells #[.int .i64 0, .int .i64 0, .string ⟨#[]⟩] 49)).heap[w.heap.size + 1]? = some (.cells #[.int .i64 0, .int .i64 0, .string ⟨#[]⟩] 49 (0, 0)) := by have := old_new (w.alloc (.cells #[.int .i64 px, .int .i64 py, .string ps] 49)) (.cells #[.int .i64 0, .int .i64 0, .string ⟨#[]⟩] 49) (.cells #[.int .i64 0, .int .i64 0, .string ⟨#[]⟩] 49); simpa using this
  have x3 := blk_later hb3 hx
  have HCl : Hid (Calls Tryd.prog 34 #[.string key] (((w.alloc (.cells #[.int .i64 px, .int .i64 py, .string ps] 49)).alloc (.cells #[.int .i64 0, .int .i64 0, .string ⟨#[]⟩] 49)).alloc (.cells #[.int .i64 0, .int .i64 0, .string ⟨#[]⟩] 49)) fun e w' => e = .returned (.string key) ∧ Below (((w.alloc (.cells #[.int .i64 px, .int .i64 py, .string ps] 49)).alloc (.cells #[.int .i64 0, .int .i64 0, .string ⟨#[]⟩] 49)).alloc (.cells #[.int .i64 0, .int .i64 0, .string ⟨#[]⟩] 49)).heap.size (((w.alloc (.cells #[.int .i64 px, .int .i64 py, .string ps] 49)).alloc (.cells #[.int .i64 0, .int .i64 0, .string ⟨#[]⟩] 49)).alloc (.cells #[.int .i64 0, .int .i64 0, .string ⟨#[]⟩] 49)) w') := clone_any key _ (by omega)
  have HF : Hid (Below w.heap.size w (((w.alloc (.cells #[.int .i64 px, .int .i64 py, .string ps] 49)).alloc (.cells #[.int .i64 0, .int .i64 0, .string ⟨#[]⟩] 49)).alloc (.cells #[.int .i64 0, .int .i64 0, .string ⟨#[]⟩] 49)) ∧ (((w.alloc (.cells #[.int .i64 px, .int .i64 py, .string ps] 49)).alloc (.cells #[.int .i64 0, .int .i64 0, .string ⟨#[]⟩] 49)).alloc (.cells #[.int .i64 0, .int .i64 0, .string ⟨#[]⟩] 49)).heap[w.heap.size]? = some (.cells #[.int .i64 px, .int .i64 py, .string ps] 49 (0, 0)) ∧ (((w.alloc (.cells #[.int .i64 px, .int .i64 py, .string ps] 49)).alloc (.cells #[.int .i64 0, .int .i64 0, .string ⟨#[]⟩] 49)).alloc (.cells #[.int .i64 0, .int .i64 0, .string ⟨#[]⟩] 49)).heap[w.heap.size + 1]? = some (.cells #[.int .i64 0, .int .i64 0, .string ⟨#[]⟩] 49 (0, 0)) ∧ (((w.alloc (.cells #[.int .i64 px, .int .i64 py, .string ps] 49)).alloc (.cells #[.int .i64 0, .int .i64 0, .string ⟨#[]⟩] 49)).alloc (.cells #[.int .i64 0, .int .i64 0, .string ⟨#[]⟩] 49)).heap[x]? = some (.cells #[.pointer none] 79 (0, 0))) := ⟨hb3, v3, r3, x3⟩
  have hxl := idx_lt hx
  clear hb3 v3 r3 x3 hx
  unfold pl
  go_enter Tryd.func21, Tryd.ntmps21
  go_wp2_with (go_at_call 34; refine HCl.out.mono ?_; rintro e w4 ⟨rfl, hb4⟩)
  refine wp_loop_rounds 1 ?_
  rw [rounds_succ]
  have x4 := blk_later hb4 HF.out.2.2.2
  go_wp2_with (first
    | (go_at_call 35; refine (pload_any (idx_cell' x4) (.inl rfl)).mono ?_; rintro e w' ⟨rfl, hw⟩; obtain rfl : w4 = w' := hw.symm)
    | (go_at_call 36; refine (pget_nil _ _).mono ?_; rintro e w5 ⟨rfl, hb5⟩; unfold pl)
    | (go_at_call 37; refine (psize_nil _).mono ?_; rintro e w' ⟨rfl, hw⟩; rw [hw]; clear hw))
  have hb6 : Below w5.heap.size w5 (w5.alloc (.cells #[.int .i64 0, .int .i64 0, .string ⟨#[]⟩] 49)) := below_alloc _ _
  have hb46 : Below w4.heap.size w4 (w5.alloc (.cells #[.int .i64 0, .int .i64 0, .string ⟨#[]⟩] 49)) := hb5.trans (hb6.mono hb5.size)
  have H6 : Hid (Below w.heap.size w (w5.alloc (.cells #[.int .i64 0, .int .i64 0, .string ⟨#[]⟩] 49)) ∧ (w5.alloc (.cells #[.int .i64 0, .int .i64 0, .string ⟨#[]⟩] 49)).heap[w.heap.size]? = some (.cells #[.int .i64 px, .int .i64 py, .string ps] 49 (0, 0)) ∧ (w5.alloc (.cells #[.int .i64 0, .int .i64 0, .string ⟨#[]⟩] 49)).heap[w.heap.size + 1]? = some (.cells #[.int .i64 0, .int .i64 0, .string ⟨#[]⟩] 49 (0, 0)) ∧ (w5.alloc (.cells #[.int .i64 0, .int .i64 0, .string ⟨#[]⟩] 49)).heap[x]? = some (.cells #[.pointer none] 79 (0, 0)) ∧ (w5.alloc (.cells #[.int .i64 0, .int .i64 0, .string ⟨#[]⟩] 49)).heap[w5.heap.size]? = some (.cells #[.int .i64 0, .int .i64 0, .string ⟨#[]⟩] 49 (0, 0))) :=
    ⟨HF.out.1.trans ((hb4.trans (hb46.mono hb4.size)).mono HF.out.1.size), blk_later hb46 (blk_later hb4 HF.out.2.1), blk_later hb46 (blk_later hb4 HF.out.2.2.1), blk_later hb46 x4, heap_alloc_new w5 _⟩
  have hw5 : w.heap.size + 1 < w5.heap.size := by
    have h1 := idx_lt (blk_later hb4 HF.out.2.2.1)
    have h2 := hb5.size
    omega
  obtain ⟨v0, v1, v2, _⟩ := pl_cells H6.out.2.1
  clear hb6 hb46 hb5 hb4 x4
  go_region_held3 (fun w' => w'.cell? ⟨w.heap.size, 0, none⟩ = some (.int .i64 px) ∧ w'.cell? ⟨w.heap.size, 1, none⟩ = some (.int .i64 py) ∧ w'.cell? ⟨w.heap.size, 2, none⟩ = some (.string ps)) (first
      | exact ⟨set_cell_far (by omega) (pl_cells (blk_later hb7 H6.out.2.1)).1, set_cell_far (by omega) (pl_cells (blk_later hb7 H6.out.2.1)).2.1, set_cell_far (by omega) (pl_cells (blk_later hb7 H6.out.2.1)).2.2.1⟩
      | exact ⟨(pl_cells (blk_later hb7 H6.out.2.1)).1, (pl_cells (blk_later hb7 H6.out.2.1)).2.1, (pl_cells (blk_later hb7 H6.out.2.1)).2.2.1⟩
      | go_keep)
    (first
      | (go_at_call 39; refine (pwithTree_nil key px py ps _).mono ?_; rintro e w7 ⟨t, vb, rfl, ht, hvb, hleaf, hb7⟩)
      | (go_at_call 38; refine (pcas_any (idx_cell' (blk_later hb7 H6.out.2.2.2.1)) (idx_free' (blk_later hb7 H6.out.2.2.2.1)) (.inl rfl) (.inr ⟨t, rfl, by simp [World.shape?, hleaf.blk]⟩)).mono ?_; rintro e w8 ⟨rfl, rfl⟩))
  have x7 := blk_later hb7 H6.out.2.2.2.1
  have r8 : (w7.setCell ⟨x, 0, none⟩ (.pointer (some ⟨t, 0, none⟩))).heap[w.heap.size + 1]? = some (.cells #[.int .i64 0, .int .i64 0, .string ⟨#[]⟩] 49 (0, 0)) := set_blk_far (by omega) (blk_later hb7 H6.out.2.2.1)
  have t8 : (w7.setCell ⟨x, 0, none⟩ (.pointer (some ⟨t, 0, none⟩))).heap[w5.heap.size]? = some (.cells #[.int .i64 0, .int .i64 0, .string ⟨#[]⟩] 49 (0, 0)) := set_blk_far (by omega) (blk_later hb7 H6.out.2.2.2.2)
  have x8 : (w7.setCell ⟨x, 0, none⟩ (.pointer (some ⟨t, 0, none⟩))).heap[x]? = some (.cells #[.pointer (some ⟨t, 0, none⟩)] 79 (0, 0)) := set_idx' x7
  have hle : w5.heap.size + 1 ≤ t ∧ w5.heap.size + 1 ≤ vb := by
    have : (w5.alloc (.cells #[.int .i64 0, .int .i64 0, .string ⟨#[]⟩] 49)).drew.heap.size = w5.heap.size + 1 := by show (w5.alloc _).heap.size = _; simp
    omega
  have HEnd : Hid ((w7.setCell ⟨x, 0, none⟩ (.pointer (some ⟨t, 0, none⟩))).heap[x]? = some (.cells #[.pointer (some ⟨t, 0, none⟩)] 79 (0, 0)) ∧ PLeaf (w7.setCell ⟨x, 0, none⟩ (.pointer (some ⟨t, 0, none⟩))) t vb key px py ps ∧ But x w (w7.setCell ⟨x, 0, none⟩ (.pointer (some ⟨t, 0, none⟩)))) :=
    ⟨x8, ⟨set_blk_far (by omega) hleaf.blk, set_blk_far (by omega) hleaf.val⟩, (But.of_below (H6.out.1.drew.trans (hb7.mono H6.out.1.size))).trans (But.set x w7 _)⟩
  obtain ⟨r0, r1, r2, fr⟩ := pl_cells r8
  obtain ⟨t0, t1, t2, _⟩ := pl_cells t8
  clear x7 r8 t8 x8 hleaf hb7
  generalize w7.setCell ⟨x, 0, none⟩ (.pointer (some ⟨t, 0, none⟩)) = w8 at *
  go_wp2
  refine bodyPost_ret (v := .tuple #[pl 0 0 ⟨#[]⟩, .bool false, .int .i64 0]) (by simp [results, Tryd.results21, go_sem, pl, r0, r1, r2]) rfl ⟨rfl, t, vb, ?_, ?_, ?_⟩
  · exact set_three (by omega) HEnd.out.1
  · exact ⟨set_three (by omega) HEnd.out.2.1.blk, set_three (by omega) HEnd.out.2.1.val⟩
  · exact HEnd.out.2.2.three (by omega)

set_option maxRecDepth 100000 in
set_option maxHeartbeats 400000 in
theorem pindexGet {w : World} {x t vb : Nat} {key s : ByteArray} {px py : Int} (hx : w.heap[x]? = some (.cells #[.pointer (some ⟨t, 0, none⟩)] 79 (0, 0))) (h : PLeaf w t vb key px py s) (hk : key.size ≤ 64) :
    Calls Tryd.prog 22 #[.pointer (some ⟨x, 0, none⟩), .string key] w fun e w' => e = .returned (.tuple #[pl px py s, .bool true]) ∧ Below w.heap.size w w' := by
  have hb := below_alloc w (.cells #[.int .i64 0, .int .i64 0, .string ⟨#[]⟩] 49)
  have h1 := h.later hb
  have HL : Hid (Calls Tryd.prog 35 #[.pointer (some ⟨x, 0, none⟩)] (w.alloc (.cells #[.int .i64 0, .int .i64 0, .string ⟨#[]⟩] 49)) fun e w' => e = .returned (.pointer (some ⟨t, 0, none⟩)) ∧ w' = w.alloc (.cells #[.int .i64 0, .int .i64 0, .string ⟨#[]⟩] 49)) := pload_any (idx_cell' (blk_later hb hx)) (.inr ⟨t, rfl, by simp [World.shape?, h1.blk]⟩)
  have HG : Hid (Calls Tryd.prog 36 #[.pointer (some ⟨t, 0, none⟩), .string key] (w.alloc (.cells #[.int .i64 0, .int .i64 0, .string ⟨#[]⟩] 49)) fun e w' => e = .returned (.tuple #[pl px py s, .bool true]) ∧ Below (w.alloc (.cells #[.int .i64 0, .int .i64 0, .string ⟨#[]⟩] 49)).heap.size (w.alloc (.cells #[.int .i64 0, .int .i64 0, .string ⟨#[]⟩] 49)) w') := pget_leaf h1 hk
  clear h1 h hx hb
  go_enter Tryd.func22, Tryd.ntmps22
  go_wp2_with (first | (go_at_call 35; refine HL.out.mono ?_; rintro e w' ⟨rfl, rfl⟩) | (go_at_call 36; refine HG.out.mono ?_; rintro e w3 ⟨rfl, hb3⟩; have hr : w3.heap[w.heap.size]? = some (.cells #[.int .i64 0, .int .i64 0, .string ⟨#[]⟩] 49 (0, 0)) := (hb3.block _ (by simp)).trans (heap_alloc_new w _); obtain ⟨r0, r1, r2, fr⟩ := pl_cells hr; have HB : Hid (Below w.heap.size w w3) := (below_alloc w _).trans (hb3.mono (below_alloc w _).size); clear hb3 hr; unfold pl))
  refine bodyPost_ret (v := .tuple #[pl px py s, .bool true]) (by simp [results, Tryd.results22, go_sem, pl, r0, r1, r2]) rfl ⟨rfl, ?_⟩
  exact ((HB.out.setCell (by simp) _).setCell (by simp) _).setCell (by simp) _
set_option maxRecDepth 100000 in
set_option maxHeartbeats 400000 in
theorem pindexLen {w : World} {x t vb : Nat} {key s : ByteArray} {px py : Int} (hx : w.heap[x]? = some (.cells #[.pointer (some ⟨t, 0, none⟩)] 79 (0, 0))) (h : PLeaf w t vb key px py s) :
    Calls Tryd.prog 23 #[.pointer (some ⟨x, 0, none⟩)] w fun e w' => e = .returned (.int .i64 1) ∧ w' = w := by
  have HL : Hid (Calls Tryd.prog 35 #[.pointer (some ⟨x, 0, none⟩)] w fun e w' => e = .returned (.pointer (some ⟨t, 0, none⟩)) ∧ w' = w) := pload_any (idx_cell' hx) (.inr ⟨t, rfl, by simp [World.shape?, h.blk]⟩)
  have HG : Hid (Calls Tryd.prog 37 #[.pointer (some ⟨t, 0, none⟩)] w fun e w' => e = .returned (.int .i64 1) ∧ w' = w) := psize_some t 1 w h.cells.2.2.1
  clear h hx
  go_enter Tryd.func23, Tryd.ntmps23
  go_wp2_with (first | (go_at_call 35; refine HL.out.mono ?_; rintro e w' ⟨rfl, rfl⟩) | (go_at_call 37; refine HG.out.mono ?_; rintro e w' ⟨rfl, rfl⟩))
  go_ret
  exact ⟨rfl, rfl⟩

set_option maxRecDepth 100000 in
set_option maxHeartbeats 1000000 in
theorem awake_any (w : World) : Calls Tryd.prog 8 #[] w fun e w' => e = .returned (.bool true) ∧ Below w.heap.size w w' := by
  have HPut : Hid (Calls Tryd.prog 21 #[.pointer (some ⟨w.heap.size, 0, none⟩), .string ⟨#[107]⟩, pl 1 0 ⟨#[97]⟩] (w.alloc (.cells #[.pointer none] 79)) fun e w' => e = .returned (.tuple #[pl 0 0 ⟨#[]⟩, .bool false, .int .i64 0]) ∧ ∃ t vb, w'.heap[w.heap.size]? = some (.cells #[.pointer (some ⟨t, 0, none⟩)] 79 (0, 0)) ∧ PLeaf w' t vb ⟨#[107]⟩ 1 0 ⟨#[97]⟩ ∧ But w.heap.size (w.alloc (.cells #[.pointer none] 79)) w') := pput_first (heap_alloc_new w _) (by decide)
  unfold pl at HPut
  go_enter Tryd.func8, Tryd.ntmps8
  go_wp2_with (first
    | (go_at_call 20; refine (pnew_any _).mono ?_; rintro e w' ⟨rfl, rfl⟩)
    | (go_at_call 21; refine HPut.out.mono ?_; rintro e w2 ⟨rfl, t, vb, hx2, hl2, hbut⟩)
    | (go_at_call 22; refine (pindexGet (blk_later (below_alloc w2 _) hx2) (hl2.later (below_alloc w2 _)) (by decide)).mono ?_; rintro e w3 ⟨rfl, hb3⟩; unfold pl; have z3 : w3.heap[w2.heap.size]? = some (.cells #[.int .i64 0, .int .i64 0, .string ⟨#[]⟩] 49 (0, 0)) := blk_later hb3 (heap_alloc_new w2 _); obtain ⟨c0, c1, c2, _⟩ := pl_cells z3; have y3 := fun ob => cell_later (below_alloc w3 ob) c0; have y4 := fun ob => cell_later (below_alloc w3 ob) c1; have y5 := fun ob => cell_later (below_alloc w3 ob) c2)
    | (go_at_call 23; refine (pindexLen (blk_later (below_alloc w3 _) (blk_later hb3 (blk_later (below_alloc w2 _) hx2))) ((hl2.later (below_alloc w2 _)).later hb3 |>.later (below_alloc w3 _))).mono ?_; rintro e w' ⟨rfl, rfl⟩))
  go_ret
  refine ⟨rfl, ?_⟩
  have b1 : Below w.heap.size w w2 := (below_alloc w _).trans (hbut.below (Nat.le_refl _) (below_alloc w _).size)
  have b2 : Below w.heap.size w w3 := b1.trans (((below_alloc w2 _).trans (hb3.mono (below_alloc w2 _).size)).mono b1.size)
  exact b2.alloc b2.size _

end Go.Proofs.YtcgjppacnhmjlaaDoor
