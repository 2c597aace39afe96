/- Own texts: PAtom, PIndex. -/
import Derived.Test.YtcgjppacnhmjlaaFmAV
import Derived.Laws.LoneSync
import Derived.Lib.Builder
import Derived.Shelf.LaysM
import Derived.Shelf.Strconv.Clone

section
set_option linter.unusedVariables false
set_option linter.unusedSimpArgs false
set_option linter.unusedSectionVars false
set_option linter.unusedVariables false
set_option linter.unusedSimpArgs false
namespace Go.Proofs.Ytcgjppacnhmjlaa
open Go.RowKit

theorem infoT : (Try.prog.info? 103).map (fun i => (i.zero, i.size, i.bytes)) = some (some (.agg #[.string ⟨#[]⟩, .pointer none, .slice none 0 0, .int .i64 0]), 4, 56) := by kernel_rfl
theorem run_loadPointer {a : Addr} {p : Option Addr} {w : World} (hc : w.cell? a = some (.pointer p)) : (callFunc 63 #[.pointer (some a)]).run Try.prog w = .ok (.value (.pointer p)) w := by
  rw [run_callFunc_extern (e := Extern.Atomic.loadT .ptr) Try.func63 (by kernel_rfl) (by kernel_rfl) (by kernel_rfl) (by kernel_rfl)]
  change (Sem.run Try.prog (do Extern.Atomic.read .ptr (← asAddr (.pointer (some a)))) w).andThen _ = _
  simp [Extern.Atomic.read, asAddr, hc, Result.andThen]
theorem samePointer_self (p : Option Addr) (w : World) : (samePointer p p).run Try.prog w = .ok true w := by
  cases p with
  | none => rfl
  | some a => simp [samePointer, sameAddr]
theorem cas_body (x y z : Value) : ∃ m1 m2 : String, Extern.Atomic.casT .ptr #[x, y, z] = (do
    let a' ← asAddr x
    if ← Extern.Atomic.touchesFrozen a' then unsupported (.unsafePointer m1)
    let eq ← match Extern.Atomic.T.ptr, ← Extern.Atomic.read .ptr a', y with
      | _, .int _ x, .int _ y => pure (x == y)
      | .ptr, .pointer x, .pointer y => samePointer x y
      | .int _, .pointer (some _), .int _ 0 | .int _, .int _ 0, .pointer (some _) => pure false
      | .int _, .pointer (some _), _ | .int _, _, .pointer (some _) => unsupported .addressObserved
      | _, _, _ => stuck m2
    if eq then store a' z .atomic
    pure (Value.bool eq)) := ⟨_, _, rfl⟩
theorem run_casPointer {a : Addr} {p q : Option Addr} {w : World} (hc : w.cell? a = some (.pointer p)) (hz : w.frozen? a = false) :
    (callFunc 67 #[.pointer (some a), .pointer p, .pointer q]).run Try.prog w = .ok (.value (.bool true)) (w.setCell a (.pointer q)) := by
  rw [run_callFunc_extern (e := Extern.Atomic.casT .ptr) Try.func67 (by kernel_rfl) (by kernel_rfl) (by kernel_rfl) (by kernel_rfl)]
  obtain ⟨m1, m2, h⟩ := cas_body (.pointer (some a)) (.pointer p) (.pointer q)
  rw [h]
  simp [Extern.Atomic.touchesFrozen, Extern.Atomic.read, asAddr, viewAt, World.shape?_isSome_of_cell? hc, hc, hz, run_store Try.prog w a (.pointer q) .atomic rfl, Result.andThen, samePointer_self]

/-- A pointer to a tree, or nil. -/
def PtrOk (w : World) (p : Option Addr) : Prop := p = none ∨ ∃ t, p = some ⟨t, 0, none⟩ ∧ w.shape? t = some (103, 4)
theorem TreeN.ptr {S : Nat → Prop} {n : Nat} {w : World} {tp : Option Addr} {l : List KV} (h : TreeN S n w tp l) : PtrOk w tp := by
  rcases h with h | ⟨t, h1, h2⟩
  · exact .inl h.1
  · exact .inr ⟨t, h1, h2.shape⟩
theorem lies : liesAt Try.prog Try.prog.depth 103 (4 / Try.prog.cellsOf 103) 0 103 1 = true := by kernel_rfl
theorem conv_back {p : Option Addr} {w : World} (h : PtrOk w p) : (convert 74 93 (.pointer p)).run Try.prog w = .ok (.pointer p) w := by
  obtain ⟨i0, hi0, _⟩ := info_parts infoT
  rcases h with rfl | ⟨t, rfl, h⟩
  · simp [convert, run_underlying Try.underlying74, run_underlying Try.underlying93, Conv.unsafePointer]
  · exact Lib.run_from_unsafe w _ Try.underlying74 Try.underlying93 hi0 h lies
theorem conv_to {p : Option Addr} {w : World} (h : PtrOk w p) : (convert 93 74 (.pointer p)).run Try.prog w = .ok (.pointer p) w := by
  obtain ⟨i0, hi0, _, h4, _⟩ := info_parts infoT
  rcases h with rfl | ⟨t, rfl, h⟩
  · simp [convert, run_underlying Try.underlying74, run_underlying Try.underlying93, Conv.unsafePointer]
  · exact Lib.run_to_unsafe w _ Try.underlying93 Try.underlying74 hi0 (by rw [h4]; decide) h (by show 0 < 4; decide)

set_option maxRecDepth 100000 in
set_option maxHeartbeats 400000 in
theorem load_any {xb : Nat} {p : Option Addr} {w : World} (hc : w.cell? ⟨xb, 0, none⟩ = some (.pointer p)) (hp : PtrOk w p) : Calls Try.prog 45 #[.pointer (some ⟨xb, 0, none⟩)] w fun e w' => e = .returned (.pointer p) ∧ w' = w := by
  have hl := run_loadPointer hc
  have hcv := conv_back hp
  clear hp
  go_enter Try.func45, Try.ntmps45
  go_wp2
  go_ret
  exact ⟨rfl, rfl⟩
set_option maxRecDepth 100000 in
set_option maxHeartbeats 400000 in
theorem cas_any {xb : Nat} {p q : Option Addr} {w : World} (hc : w.cell? ⟨xb, 0, none⟩ = some (.pointer p)) (hz : w.frozen? ⟨xb, 0, none⟩ = false) (hp : PtrOk w p) (hq : PtrOk w q) :
    Calls Try.prog 48 #[.pointer (some ⟨xb, 0, none⟩), .pointer p, .pointer q] w fun e w' => e = .returned (.bool true) ∧ w' = w.setCell ⟨xb, 0, none⟩ (.pointer q) := by
  have hl := run_casPointer (q := q) hc hz
  have hcv := conv_to hp
  have hcq := conv_to hq
  clear hp hq hc hz
  go_enter Try.func48, Try.ntmps48
  go_wp2
  go_ret
  exact ⟨rfl, rfl⟩

end Go.Proofs.Ytcgjppacnhmjlaa
end

section
set_option linter.unusedVariables false
set_option linter.unusedSimpArgs false
set_option linter.unusedSectionVars false
set_option linter.unusedVariables false
set_option linter.unusedSimpArgs false
namespace Go.Proofs.Ytcgjppacnhmjlaa
open Go.RowKit Go.Shelf
attribute [local go_sem ↓] Go.wp_at_zero Go.wp_at_succ

def cloneRen : Go.Shelf.Ren := ⟨fun | 316 => 62 | n => n, fun | 9 => 9 | 3 => 3 | 4 => 4 | 37 => 114 | 0 => 0 | 127 => 157 | 5 => 5 | n => n, fun | n => n⟩
theorem cloneLays : Go.Proofs.LaysM.n316 Try.prog cloneRen := {
  mixed := by kernel_rfl
  f316 := Try.func62.trans (congrArg some (by kernel_rfl))
  t0 := Try.underlying0
  a0 := Try.isAgg0
  z0 := Try.sizeOf0
  v0 := Try.zeroValue0
  t3 := Try.underlying3
  a3 := Try.isAgg3
  z3 := Try.sizeOf3
  v3 := Try.zeroValue3
  t4 := Try.underlying4
  a4 := Try.isAgg4
  z4 := Try.sizeOf4
  v4 := Try.zeroValue4
  t9 := Try.underlying9
  a9 := Try.isAgg9
  z9 := Try.sizeOf9
  v9 := Try.zeroValue9
  t37 := Try.underlying114
  a37 := Try.isAgg114
  z37 := Try.sizeOf114
  v37 := Try.zeroValue114
  t127 := Try.underlying157
  a127 := Try.isAgg157
  z127 := Try.sizeOf157
  v127 := Try.zeroValue157
  t5 := Try.underlying5
  a5 := Try.isAgg5
  z5 := Try.sizeOf5
  v5 := Try.zeroValue5
  i0 := by kernel_rfl
  i3 := by kernel_rfl
  i4 := by kernel_rfl
  i5 := by kernel_rfl
  i9 := by kernel_rfl
  i37 := by kernel_rfl
  i127 := by kernel_rfl }
theorem liteClone_any (s : ByteArray) (w : World) (h : s.size ≤ 281474976710656) : Calls Try.prog 62 #[.string s] w fun e w' => e = .returned (.string s) ∧ Below w.heap.size w w' := Any.stringslite_Clone cloneLays s w h
theorem clone_any (s : ByteArray) (w : World) (h : s.size ≤ 281474976710656) : Calls Try.prog 31 #[.string s] w fun e w' => e = .returned (.string s) ∧ Below w.heap.size w w' := by
  go_enter Try.func31, Try.ntmps31
  go_wp2_with (go_at_call 62; refine (liteClone_any _ _ h).mono ?_; rintro e w' ⟨rfl, hb⟩)
  go_ret
  exact ⟨rfl, hb⟩

/-- Outside block x the world holds what it held. -/
structure But (x : Nat) (w w' : World) : Prop where
  os : w'.os = w.os
  tape : w'.tape = w.tape
  output : w'.output = w.output
  size : w.heap.size ≤ w'.heap.size
  block : ∀ k, k < w.heap.size → k ≠ x → w'.heap[k]? = w.heap[k]?

/-- The index at block x has the pairs l; its tree lies within S, x does not. -/
structure IndexAt (S : Nat → Prop) (w : World) (x : Nat) (l : List KV) : Prop where
  tree : ∃ n tp, w.heap[x]? = some (.cells #[.pointer tp] 98 (0, 0)) ∧ TreeN S n w tp l
  out : ¬ S x
  few : l.length ≤ 3000

theorem new_any (w : World) : Calls Try.prog 19 #[] w fun e w' => e = .returned (.pointer (some ⟨w.heap.size, 0, none⟩)) ∧ w' = w.alloc (.cells #[.pointer none] 98) := by
  go_enter Try.func19, Try.ntmps19
  go_wp2
  go_ret
  exact ⟨rfl, rfl⟩

theorem size_any {S : Nat → Prop} {n : Nat} {w : World} {tp : Option Addr} {l : List KV} (h : TreeN S n w tp l) : Calls Try.prog 47 #[.pointer tp] w fun e w' => e = .returned (.int .i64 l.length) ∧ w' = w := by
  rcases h with ⟨rfl, rfl⟩ | ⟨t, rfl, h⟩
  · exact size_nil w
  · exact size_some t _ w h.size
theorem withTree_any {S : Nat → Prop} {w : World} {n : Nat} {tp : Option Addr} {l : List KV} {key : ByteArray} {v : Plc} (hS : Open S w) (hT : TreeN S n w tp l) (hk : key.size ≤ 64) (hm : l.length + 1 ≤ 1000000) :
    Calls Try.prog 49 #[.pointer tp, .string key, plc v] w fun e w' => ∃ n' tp', e = .returned (.pointer tp') ∧ TreeN S n' w' tp' (ins key.data.toList v l) ∧ Below w.heap.size w w' := by
  have hb := below_alloc w (pbox v)
  have hw : Calls Try.prog 84 #[.pointer tp, .string key, .pointer (some ⟨w.heap.size, 0, none⟩)] (w.alloc (pbox v)) (fun e w' => ∃ n' t', e = .returned (.pointer (some ⟨t', 0, none⟩)) ∧ RepN S n' w' t' (ins key.data.toList v l) ∧ Below w.heap.size w w') := by
    have fin : ∀ n' e w', Answers S n' (ins key.data.toList v l) (w.alloc (pbox v)) e w' → ∃ n' t', e = .returned (.pointer (some ⟨t', 0, none⟩)) ∧ RepN S n' w' t' (ins key.data.toList v l) ∧ Below w.heap.size w w' := by
      rintro n' e w' ⟨t', h1, h2, h3⟩
      exact ⟨n', t', h1, h2, hb.trans (h3.mono hb.size)⟩
    rcases hT with ⟨rfl, rfl⟩ | ⟨t, rfl, hR⟩
    · exact (with_nil (hS.later hb) hk (hS _ (Nat.le_refl _)) (pbox_at (heap_alloc_new w _))).mono (fin _)
    · exact (with_any n (hS.later hb) (hR.on hb) hk (hS _ (Nat.le_refl _)) (pbox_at (heap_alloc_new w _)) hm).mono (fin _)
  have HW : Hid (Calls Try.prog 84 #[.pointer tp, .string key, .pointer (some ⟨w.heap.size, 0, none⟩)] (w.alloc (pbox v)) (fun e w' => ∃ n' t', e = .returned (.pointer (some ⟨t', 0, none⟩)) ∧ RepN S n' w' t' (ins key.data.toList v l) ∧ Below w.heap.size w w')) := hw
  clear hw hT
  go_enter Try.func49, Try.ntmps49
  go_wp2_with (go_at_call 84; refine HW.out.mono ?_; rintro e w' ⟨n', t', rfl, h1, h2⟩)
  go_ret
  exact ⟨n', _, rfl, .inr ⟨t', rfl, h1⟩, h2⟩

theorem idx_cell {w : World} {x : Nat} {tp : Option Addr} (h : w.heap[x]? = some (.cells #[.pointer tp] 98 (0, 0))) : w.cell? ⟨x, 0, none⟩ = some (.pointer tp) := by simp [World.cell?, h]
theorem idx_free {w : World} {x : Nat} {tp : Option Addr} (h : w.heap[x]? = some (.cells #[.pointer tp] 98 (0, 0))) : w.frozen? ⟨x, 0, none⟩ = false := by simp [World.frozen?, h]
theorem idx_lt {w : World} {x : Nat} {ob : Obj} (h : w.heap[x]? = some ob) : x < w.heap.size := (Array.getElem?_eq_some_iff.mp h).1

set_option maxRecDepth 100000 in
set_option maxHeartbeats 400000 in
theorem indexGet_any {S : Nat → Prop} {w : World} {x : Nat} {l : List KV} {key : ByteArray} (h : IndexAt S w x l) (hk : key.size ≤ 9223372036854775807) :
    Calls Try.prog 24 #[.pointer (some ⟨x, 0, none⟩), .string key] w fun e w' => e = .returned (.tuple #[plc (valOr (lk key.data.toList l)), .bool (lk key.data.toList l).isSome]) ∧ Below w.heap.size w w' := by
  obtain ⟨n, tp, hx, hT⟩ := h.tree
  have hb := below_alloc w (pbox pl0)
  have hx1 := (hb.block x (idx_lt hx)).trans hx
  have HL : Hid (Calls Try.prog 45 #[.pointer (some ⟨x, 0, none⟩)] (w.alloc (pbox pl0)) fun e w' => e = .returned (.pointer tp) ∧ w' = w.alloc (pbox pl0)) := load_any (idx_cell hx1) (hT.on hb).ptr
  have HG : Hid (Calls Try.prog 46 #[.pointer tp, .string key] (w.alloc (pbox pl0)) fun e w' => e = .returned (.tuple #[plc (valOr (lk key.data.toList l)), .bool (lk key.data.toList l).isSome]) ∧ Below (w.alloc (pbox pl0)).heap.size (w.alloc (pbox pl0)) w') := get_any (hT.on hb) hk
  clear hx hT h hx1
  generalize lk key.data.toList l = r at *
  obtain ⟨a, ha⟩ : ∃ a, valOr r = a := ⟨_, rfl⟩
  obtain ⟨f, hf⟩ : ∃ f, r.isSome = f := ⟨_, rfl⟩
  rw [ha, hf] at HG ⊢
  clear ha hf
  go_enter Try.func24, Try.ntmps24
  go_wp2_with (first | (go_at_call 45; refine HL.out.mono ?_; rintro e w' ⟨rfl, rfl⟩) | (go_at_call 46; refine HG.out.mono ?_; rintro e w2 ⟨rfl, hb2⟩; have hr : w2.heap[w.heap.size]? = some (pbox pl0) := (hb2.block _ (by simp)).trans (heap_alloc_new w _); obtain ⟨r0, r1, r2⟩ := pbox_cells hr; have fr := pbox_free hr; have HB : Hid (Below w.heap.size w w2) := (below_alloc w _).trans (hb2.mono (below_alloc w _).size); clear hb2 hr))
  exact bodyPost_ret (v := .tuple #[plc a, .bool f]) (by simp [results, Try.results24, go_sem, r0, r1, r2, fr]) rfl ⟨rfl, ((HB.out.setCell (by simp) _).setCell (by simp) _).setCell (by simp) _⟩
set_option maxRecDepth 100000 in
set_option maxHeartbeats 400000 in
theorem indexLen_any {S : Nat → Prop} {w : World} {x : Nat} {l : List KV} (h : IndexAt S w x l) :
    Calls Try.prog 23 #[.pointer (some ⟨x, 0, none⟩)] w fun e w' => e = .returned (.int .i64 l.length) ∧ w' = w := by
  obtain ⟨n, tp, hx, hT⟩ := h.tree
  have HL : Hid (Calls Try.prog 45 #[.pointer (some ⟨x, 0, none⟩)] w fun e w' => e = .returned (.pointer tp) ∧ w' = w) := load_any (idx_cell hx) hT.ptr
  have HG : Hid (Calls Try.prog 47 #[.pointer tp] w fun e w' => e = .returned (.int .i64 l.length) ∧ w' = w) := size_any hT
  clear hx hT h
  go_enter Try.func23, Try.ntmps23
  go_wp2_with (first | (go_at_call 45; refine HL.out.mono ?_; rintro e w' ⟨rfl, rfl⟩) | (go_at_call 47; refine HG.out.mono ?_; rintro e w' ⟨rfl, rfl⟩))
  go_ret
  exact ⟨rfl, rfl⟩

end Go.Proofs.Ytcgjppacnhmjlaa
end
