/- Own texts: PIndexB, PLawFacts. -/
import Derived.Test.YtcgjppacnhmjlaaFmAW

section
set_option linter.unusedVariables false
set_option linter.unusedSimpArgs false
set_option linter.unusedSectionVars false
set_option linter.unusedVariables false
set_option linter.unusedSimpArgs false
namespace Go.Proofs.Ytcgjppacnhmjlaa
open Go.RowKit
attribute [local go_sem ↓] Go.wp_at_zero Go.wp_at_succ

theorem But.of_below {x : Nat} {w w' : World} (h : Below w.heap.size w w') : But x w w' := ⟨h.os, h.tape, h.output, h.size, fun k hk _ => h.block k hk⟩
theorem But.trans {x : Nat} {a b c : World} (h : But x a b) (k : But x b c) : But x a c :=
  ⟨k.os.trans h.os, k.tape.trans h.tape, k.output.trans h.output, Nat.le_trans h.size k.size, fun i hi hx => (k.block i (Nat.lt_of_lt_of_le hi h.size) hx).trans (h.block i hi hx)⟩
theorem But.set (x : Nat) (w : World) (v : Value) : But x w (w.setCell ⟨x, 0, none⟩ v) := ⟨rfl, rfl, rfl, by simp [World.setCell], fun k _ hx => Below.heap_setCell _ _ _ _ hx⟩
theorem set_idx {w : World} {x : Nat} {tp tq : Option Addr} (h : w.heap[x]? = some (.cells #[.pointer tp] 98 (0, 0))) : (w.setCell ⟨x, 0, none⟩ (.pointer tq)).heap[x]? = some (.cells #[.pointer tq] 98 (0, 0)) := by
  simp only [World.setCell, Array.getElem?_modify, if_true, h, Option.map_some]
  simp
theorem TreeN.keep {S : Nat → Prop} {n : Nat} {w w' : World} {tp : Option Addr} {l : List KV} (h : TreeN S n w tp l) (hk : Kept S w w') : TreeN S n w' tp l := by
  rcases h with h | ⟨t, h1, h2⟩
  · exact .inl h
  · exact .inr ⟨t, h1, h2.frame hk⟩
/-- Behind a swap the index has the new tree. -/
theorem IndexAt.swap {S : Nat → Prop} {w : World} {x n : Nat} {tp tq : Option Addr} {l : List KV} (hx : w.heap[x]? = some (.cells #[.pointer tp] 98 (0, 0))) (hS : ¬ S x) (hT : TreeN S n w tq l) (hf : l.length ≤ 3000) : IndexAt S (w.setCell ⟨x, 0, none⟩ (.pointer tq)) x l :=
  ⟨⟨n, tq, set_idx hx, hT.keep fun k hk => Below.heap_setCell _ _ _ _ (fun (e : k = x) => hS (e ▸ hk))⟩, hS, hf⟩

set_option maxRecDepth 100000 in
set_option maxHeartbeats 400000 in
theorem indexShape_any {S : Nat → Prop} {w : World} {x : Nat} {l : List KV} (h : IndexAt S w x l) :
    ∃ c g, ShapeL l c g ∧ Calls Try.prog 22 #[.pointer (some ⟨x, 0, none⟩)] w fun e w' => e = .returned (shapeV c g) ∧ Below w.heap.size w w' := by
  obtain ⟨n, tp, hx, hT⟩ := h.tree
  have hb := below_alloc w (shp (fun _ => 0) 0)
  have hlt := idx_lt hx
  have hx1 : (w.alloc (shp (fun _ => 0) 0)).heap[x]? = some (.cells #[.pointer tp] 98 (0, 0)) := (hb.block x hlt).trans hx
  obtain ⟨c, g, hsh, hcall⟩ := shape_any (hT.on hb) (by have := h.few; omega)
  refine ⟨c, g, hsh, ?_⟩
  have HL : Hid (Calls Try.prog 45 #[.pointer (some ⟨x, 0, none⟩)] (w.alloc (shp (fun _ => 0) 0)) fun e w' => e = .returned (.pointer tp) ∧ w' = w.alloc (shp (fun _ => 0) 0)) := load_any (idx_cell hx1) (hT.on hb).ptr
  have HG : Hid (Calls Try.prog 54 #[.pointer tp] (w.alloc (shp (fun _ => 0) 0)) fun e w' => e = .returned (shapeV c g) ∧ Below (w.alloc (shp (fun _ => 0) 0)).heap.size (w.alloc (shp (fun _ => 0) 0)) w') := hcall
  clear hx hT h hcall hsh hx1
  go_enter Try.func22, Try.ntmps22
  go_wp2_with (first | (go_at_call 45; refine HL.out.mono ?_; rintro e w' ⟨rfl, rfl⟩) | (go_at_call 54; refine HG.out.mono ?_; rintro e w3 ⟨rfl, hb3⟩; have hr : w3.heap[w.heap.size]? = some (shp (fun _ => 0) 0) := (hb3.block _ (by simp)).trans (heap_alloc_new w _); obtain ⟨r0, r1, r2, r3, r4, r5⟩ := shp_cell hr; have fr := shp_free hr; have HB : Hid (Below w.heap.size w w3) := (below_alloc w _).trans (hb3.mono (below_alloc w _).size); clear hb3 hr; unfold shapeV))
  refine bodyPost_ret (v := shapeV c g) (by simp [results, Try.results22, go_sem, shapeV, r0, r1, r2, r3, r4, r5]) rfl ⟨rfl, ?_⟩
  exact (((((HB.out.setCell (by simp) _).setCell (by simp) _).setCell (by simp) _).setCell (by simp) _).setCell (by simp) _).setCell (by simp) _

theorem srt_of {S : Nat → Prop} {n : Nat} {w : World} {tp : Option Addr} {l : List KV} (h : TreeN S n w tp l) : Srt l := by
  rcases h with ⟨_, rfl⟩ | ⟨t, _, h⟩
  · exact List.Pairwise.nil
  · exact h.srt
theorem len_ins_some {V : Type} {k : List UInt8} {v u : V} {l : List (List UInt8 × V)} (hs : Srt l) (hu : lk k l = some u) : (ins k v l).length = l.length := by
  have h1 := len_del hs hu
  have h2 : del k (ins k v l) = del k l := by
    refine del_eq hs (srt_del (srt_ins hs)) fun e => ?_
    rw [mem_del, mem_ins]
    constructor
    · rintro ⟨h | h, h2⟩
      · exact absurd (by rw [h]) h2
      · exact h
    · rintro ⟨h, h2⟩
      exact ⟨.inr ⟨h, h2⟩, h2⟩
  have h3 := len_del (k := k) (l := ins k v l) (v := v) (srt_ins (v := v) hs) (lk_some (srt_ins hs) (mem_ins.mpr (.inl rfl)))
  rw [h2] at h3
  omega

end Go.Proofs.Ytcgjppacnhmjlaa
end

section
set_option linter.unusedVariables false
set_option linter.unusedSimpArgs false
set_option linter.unusedSectionVars false
set_option linter.unusedVariables false
set_option linter.unusedSimpArgs false
namespace Go.Proofs.Ytcgjppacnhmjlaa
open Go.RowKit

def kof (s : ByteArray) : List UInt8 := s.data.toList
theorem kof_inj {a b : ByteArray} (h : kof a = kof b) : a = b := by
  have := Lib.mk_data a; have h2 := Lib.mk_data b
  unfold kof at h; rw [← this, ← h2, h]

theorem RepN.keep' {S : Nat → Prop} {w w' : World} {x n b : Nat} {l : List KV} (h : RepN S n w b l) (hb : But x w w') (hS : ¬ S x) : RepN S n w' b l := by
  have h1 : RepN (fun k => S k ∧ k < w.heap.size) n w b l := h.weaken (fun k h1 h2 => ⟨h1, h2⟩)
  exact h1.keep (fun k hk => hb.block k hk.2 (fun e => hS (e ▸ hk.1))) (fun k hk _ => hk.1) (Nat.le_refl _)
/-- An index that is not the one that was changed. -/
theorem IndexAt.but {S : Nat → Prop} {w w' : World} {x y : Nat} {l : List KV} (h : IndexAt S w y l) (hb : But x w w') (hyx : y ≠ x) (hS : ¬ S x) : IndexAt S w' y l := by
  obtain ⟨n, tp, hx, hT⟩ := h.tree
  refine ⟨⟨n, tp, (hb.block y (idx_lt hx) hyx).trans hx, ?_⟩, h.out, h.few⟩
  rcases hT with hT | ⟨t, h1, h2⟩
  · exact .inl hT
  · exact .inr ⟨t, h1, h2.keep' hb hS⟩
theorem IndexAt.on {S : Nat → Prop} {w w' : World} {y : Nat} {l : List KV} (h : IndexAt S w y l) (hb : Below w.heap.size w w') : IndexAt S w' y l := by
  obtain ⟨n, tp, hx, hT⟩ := h.tree
  exact ⟨⟨n, tp, (hb.block y (idx_lt hx)).trans hx, hT.on hb⟩, h.out, h.few⟩
theorem Open.but {S : Nat → Prop} {w w' : World} {x : Nat} (h : Open S w) (hb : But x w w') : Open S w' := fun k hk => h k (Nat.le_trans hb.size hk)
theorem IndexAt.lt {S : Nat → Prop} {w : World} {x : Nat} {l : List KV} (h : IndexAt S w x l) : x < w.heap.size := by
  obtain ⟨n, tp, hx, hT⟩ := h.tree; exact idx_lt hx
theorem IndexAt.srt {S : Nat → Prop} {w : World} {x : Nat} {l : List KV} (h : IndexAt S w x l) : Srt l := by
  obtain ⟨n, tp, hx, hT⟩ := h.tree; exact srt_of hT

theorem TreeN.weaken {S S' : Nat → Prop} {w : World} {n : Nat} {tp : Option Addr} {l : List KV} (h : TreeN S n w tp l) (hS : ∀ k, S k → k < w.heap.size → S' k) : TreeN S' n w tp l := by
  rcases h with h | ⟨t, h1, h2⟩
  · exact .inl h
  · exact .inr ⟨t, h1, h2.weaken hS⟩
theorem IndexAt.weaken {S S' : Nat → Prop} {w : World} {z : Nat} {Z : List KV} (h : IndexAt S w z Z) (hS : ∀ k, S k → k < w.heap.size → S' k) (ho : ¬ S' z) : IndexAt S' w z Z := by
  obtain ⟨n, tp, hx, hT⟩ := h.tree
  exact ⟨⟨n, tp, hx, hT.weaken hS⟩, ho, h.few⟩
theorem But.setO (x o : Nat) (w : World) (v : Value) : But x w (w.setCell ⟨x, o, none⟩ v) := ⟨rfl, rfl, rfl, by simp [World.setCell], fun k _ hk => Below.heap_setCell _ _ _ _ hk⟩
theorem PlAt.set {w : World} {b x o : Nat} {v : Plc} {u : Value} (h : PlAt w b v) (hne : b ≠ x) : PlAt (w.setCell ⟨x, o, none⟩ u) b v := by
  have hb : (w.setCell ⟨x, o, none⟩ u).heap[b]? = w.heap[b]? := Below.heap_setCell _ _ _ _ hne
  exact ⟨(World.cell?_of_block (a := ⟨b, 0, none⟩) hb).trans h.1, (World.cell?_of_block (a := ⟨b, 1, none⟩) hb).trans h.2.1, (World.cell?_of_block (a := ⟨b, 2, none⟩) hb).trans h.2.2⟩
set_option maxRecDepth 100000 in
set_option maxHeartbeats 1000000 in
theorem put_room {S : Nat → Prop} {w : World} {x : Nat} {l : List KV} {key : ByteArray} {v : Plc} (hS : Open S w) (h : IndexAt S w x l) (hk : key.size ≤ 64) (hf : l.length < 3000) :
    Calls Try.prog 20 #[.pointer (some ⟨x, 0, none⟩), .string key, plc v] w fun e w' => (∃ a b, e = .returned (.tuple #[plc a, .bool b, .int .i64 0])) ∧ IndexAt S w' x (ins (kof key) v l) ∧ But x w w' := by
  obtain ⟨n, tp, hx, hT⟩ := h.tree
  have hlt := idx_lt hx
  have hfew : (ins key.data.toList v l).length ≤ 3000 := by have := len_ins_le key.data.toList v l (srt_of hT); omega
  have hb0 : Below w.heap.size w (((w.alloc (pbox v)).alloc (pbox pl0)).alloc (pbox pl0)) := (((Below.refl _ _).alloc (Nat.le_refl _) _).alloc (by simp) _).alloc (by simp; omega) _
  obtain ⟨w0, hw0⟩ : ∃ w0, ((w.alloc (pbox v)).alloc (pbox pl0)).alloc (pbox pl0) = w0 := ⟨_, rfl⟩
  have hA : w0.heap[w.heap.size]? = some (pbox v) := by rw [← hw0, Below.heap_alloc _ _ _ (by simp; omega)]; exact old_new w _ _
  have hC : w0.heap[w.heap.size + 1]? = some (pbox pl0) := by
    have := old_new (w.alloc (pbox v)) (pbox pl0) (pbox pl0)
    rw [World.size_alloc] at this; rw [← hw0]; exact this
  rw [hw0] at hb0
  have HA : Hid (w0.heap[w.heap.size]? = some (pbox v)) := hA
  have HC : Hid (w0.heap[w.heap.size + 1]? = some (pbox pl0)) := hC
  have HB0 : Hid (Below w.heap.size w w0) := hb0
  have HCl : Hid (Calls Try.prog 31 #[.string key] (((w.alloc (pbox v)).alloc (pbox pl0)).alloc (pbox pl0)) fun e w' => e = .returned (.string key) ∧ Below w0.heap.size w0 w') := by rw [hw0]; exact clone_any key w0 (by omega)
  have HL : Hid (∀ w1, Below w.heap.size w w1 → Calls Try.prog 45 #[.pointer (some ⟨x, 0, none⟩)] w1 fun e w' => e = .returned (.pointer tp) ∧ w' = w1) := fun w1 hb => load_any (idx_cell ((hb.block x hlt).trans hx)) (hT.on hb).ptr
  have HZ : Hid (∀ w1, Below w.heap.size w w1 → Calls Try.prog 47 #[.pointer tp] w1 fun e w' => e = .returned (.int .i64 l.length) ∧ w' = w1) := fun w1 hb => size_any (hT.on hb)
  have hT' : TreeN (fun k => S k ∧ k ≠ w.heap.size + 1) n w tp l := hT.weaken fun k h1 h2 => ⟨h1, by omega⟩
  have HWi : Hid (∀ w1, Below w.heap.size w w1 → w.heap.size + 2 < w1.heap.size → Calls Try.prog 49 #[.pointer tp, .string key, plc v] w1 fun e w' => ∃ n' tp', e = .returned (.pointer tp') ∧ TreeN (fun k => S k ∧ k ≠ w.heap.size + 1) n' w' tp' (ins key.data.toList v l) ∧ Below w1.heap.size w1 w') := fun w1 hb hz => withTree_any (fun k hk => ⟨hS k (by omega), by omega⟩) (hT'.on hb) hk (by have := h.few; omega)
  have HCa : Hid (∀ w1 n' tq L, Below w.heap.size w w1 → TreeN (fun k => S k ∧ k ≠ w.heap.size + 1) n' w1 tq L → Calls Try.prog 48 #[.pointer (some ⟨x, 0, none⟩), .pointer tp, .pointer tq] w1 fun e w' => e = .returned (.bool true) ∧ w' = w1.setCell ⟨x, 0, none⟩ (.pointer tq)) := fun w1 n' tq L hb hq => cas_any (idx_cell ((hb.block x hlt).trans hx)) (idx_free ((hb.block x hlt).trans hx)) (hT.on hb).ptr hq.ptr
  have HEnd : Hid (∀ w1 n' tq w6, Below w.heap.size w w1 → TreeN (fun k => S k ∧ k ≠ w.heap.size + 1) n' w1 tq (ins key.data.toList v l) → But (w.heap.size + 1) (w1.setCell ⟨x, 0, none⟩ (.pointer tq)) w6 → IndexAt S w6 x (ins key.data.toList v l) ∧ But x w w6) := fun w1 n' tq w6 hb hq h6 => by
    have h1 : IndexAt (fun k => S k ∧ k ≠ w.heap.size + 1) (w1.setCell ⟨x, 0, none⟩ (.pointer tq)) x (ins key.data.toList v l) := IndexAt.swap ((hb.block x hlt).trans hx) (fun hh => h.out hh.1) hq hfew
    refine ⟨(h1.but h6 (by omega) (fun hh => hh.2 rfl)).weaken (fun k hk _ => hk.1) h.out, ?_⟩
    have hs0 : (w1.setCell ⟨x, 0, none⟩ (.pointer tq)).heap.size = w1.heap.size := by simp [World.setCell]
    refine ⟨h6.os.trans hb.os, h6.tape.trans hb.tape, h6.output.trans hb.output, Nat.le_trans hb.size (by rw [← hs0]; exact h6.size), fun k hk hne => ?_⟩
    have := hb.size
    exact (h6.block k (by omega) (by omega)).trans ((Below.heap_setCell _ _ _ _ hne).trans (hb.block k hk))
  have hg := fun w1 (hb : Below w.heap.size w w1) => get_any (key := key) (hT.on hb) (by omega)
  obtain ⟨a, ha⟩ : ∃ a, valOr (lk key.data.toList l) = a := ⟨_, rfl⟩
  rw [ha] at hg
  have hfI : ¬ (3000 : Int) ≤ (l.length : Int) := by omega
  have HS0 : Hid (w0 = ((w.alloc (pbox v)).alloc (pbox pl0)).alloc (pbox pl0)) := hw0.symm
  have hlt0 : w.heap.size + 2 < w0.heap.size := by rw [← hw0]; simp
  cases hfo : (lk key.data.toList l).isSome with
  | false =>
    rw [hfo] at hg
    have HG : Hid (∀ w1, Below w.heap.size w w1 → Calls Try.prog 46 #[.pointer tp, .string key] w1 fun e w' => e = .returned (.tuple #[plc a, .bool false]) ∧ Below w1.heap.size w1 w') := hg
    clear hg ha hfo hx hT h hA hC hb0 hw0
    go_enter Try.func20, Try.ntmps20
    go_wp2_with (go_at_call 31; refine HCl.out.mono ?_; rintro e w1 ⟨rfl, hb1⟩)
    have HB1 : Hid (Below w.heap.size w w1) := HB0.out.trans (hb1.mono HB0.out.size)
    have HA1 : Hid (w1.heap[w.heap.size]? = some (pbox v)) := (hb1.block _ (by omega)).trans HA.out
    have HC1 : Hid (w1.heap[w.heap.size + 1]? = some (pbox pl0)) := (hb1.block _ (by omega)).trans HC.out
    have hs1 : w.heap.size + 2 < w1.heap.size := by have := hb1.size; omega
    clear hb1
    refine wp_loop_rounds 1 ?_
    rw [rounds_succ]
    go_wp2_with (first | (go_at_call 45; refine (HL.out _ HB1.out).mono ?_; rintro e w' ⟨rfl, rfl⟩) | (go_at_call 46; refine (HG.out _ HB1.out).mono ?_; rintro e w2 ⟨rfl, hb2⟩; have HB2 : Hid (Below w.heap.size w (w2.alloc (pbox a))) := (HB1.out.trans (hb2.mono (by omega))).alloc (by have := hb2.size; omega) _; have HA2 : Hid ((w2.alloc (pbox a)).heap[w.heap.size]? = some (pbox v)) := (Below.heap_alloc _ _ _ (by have := hb2.size; omega)).trans ((hb2.block _ (by omega)).trans HA1.out); have HC2 : Hid ((w2.alloc (pbox a)).heap[w.heap.size + 1]? = some (pbox pl0)) := (Below.heap_alloc _ _ _ (by have := hb2.size; omega)).trans ((hb2.block _ (by omega)).trans HC1.out); have hs2 : w.heap.size + 2 < w2.heap.size := (by have := hb2.size; omega); clear hb2) | (go_at_call 47; refine (HZ.out _ HB2.out).mono ?_; rintro e w' ⟨rfl, rfl⟩))
    obtain ⟨w3, hw3⟩ : ∃ w3, w2.alloc (pbox a) = w3 := ⟨_, rfl⟩
    first | rw [show w2.alloc (Obj.cells #[.int .i64 a.1, .int .i64 a.2.1, .string a.2.2] 46) = w3 from hw3] | rw [hw3]
    have H11 : Hid (w3.heap[w2.heap.size]? = some (pbox a)) := by rw [← hw3]; exact heap_alloc_new _ _
    have hs3 : w2.heap.size < w3.heap.size := (Array.getElem?_eq_some_iff.1 H11.out).1
    have hne1 : w2.heap.size ≠ x := by omega
    have hne2 : w.heap.size ≠ x := by omega
    have hne3 : w.heap.size + 1 ≠ x := by omega
    have hne4 : x ≠ w2.heap.size := by omega
    have hne5 : x ≠ w.heap.size := by omega
    have hne6 : x ≠ w.heap.size + 1 := by omega
    rw [hw3] at HB2 HA2 HC2
    obtain ⟨q0, q1, q2⟩ := pbox_cells HA2.out
    clear hw3
    have hz3 : w.heap.size + 2 < w3.heap.size := by omega
    have HB2' := HB2.out.size
    go_region_held3 (fun w' => w'.cell? ⟨w.heap.size, 0, none⟩ = some (.int .i64 v.1) ∧ w'.cell? ⟨w.heap.size, 1, none⟩ = some (.int .i64 v.2.1) ∧ w'.cell? ⟨w.heap.size, 2, none⟩ = some (.string v.2.2)) (first | exact ⟨q0, q1, q2⟩ | exact PlAt.later hb4 ⟨q0, q1, q2⟩ | exact PlAt.set (PlAt.later hb4 ⟨q0, q1, q2⟩) hne2) (first
      | (go_at_call 49; refine (HWi.out _ HB2.out.drew hz3).mono ?_; rintro e w4 ⟨n', tp', rfl, hT3, hb4⟩)
      | (go_at_call 48; refine (HCa.out _ _ _ _ (HB2.out.drew.trans (hb4.mono HB2')) hT3).mono ?_; rintro e w5 ⟨rfl, rfl⟩))
    have HE : Hid (∀ w6, But (w.heap.size + 1) (w4.setCell ⟨x, 0, none⟩ (.pointer tp')) w6 → IndexAt S w6 x (ins key.data.toList v l) ∧ But x w w6) := fun w6 h6 => HEnd.out w4 n' tp' w6 (HB2.out.drew.trans (hb4.mono HB2')) hT3 h6
    have h11 : (w4.setCell ⟨x, 0, none⟩ (.pointer tp')).heap[w2.heap.size]? = some (pbox a) := (Below.heap_setCell _ _ _ _ hne1).trans ((hb4.block _ hs3).trans H11.out)
    have h6 : (w4.setCell ⟨x, 0, none⟩ (.pointer tp')).heap[w.heap.size + 1]? = some (pbox pl0) := (Below.heap_setCell _ _ _ _ hne3).trans ((hb4.block _ (show w.heap.size + 1 < w3.heap.size by omega)).trans HC2.out)
    obtain ⟨w5, hw5⟩ : ∃ w5, w4.setCell ⟨x, 0, none⟩ (.pointer tp') = w5 := ⟨_, rfl⟩
    rw [hw5] at HE h11 h6 ⊢
    obtain ⟨s0, s1, s2⟩ := pbox_cells h11
    obtain ⟨r0, r1, r2⟩ := pbox_cells h6
    have fr := pbox_free h6
    have hsn : w2.heap.size ≠ w.heap.size + 1 := by omega
    clear h11 h6 hw5 hT3 hb4
    go_wp2
    exact bodyPost_ret (v := .tuple #[plc a, .bool false, .int .i64 0]) (by simp [results, Try.results20, go_sem, r0, r1, r2, fr]) rfl ⟨⟨a.1, a.2.1, a.2.2, .inl rfl⟩, HE.out _ (((But.setO _ 0 _ _).trans (But.setO _ 1 _ _)).trans (But.setO _ 2 _ _))⟩
  | true =>
    rw [hfo] at hg
    have HG : Hid (∀ w1, Below w.heap.size w w1 → Calls Try.prog 46 #[.pointer tp, .string key] w1 fun e w' => e = .returned (.tuple #[plc a, .bool true]) ∧ Below w1.heap.size w1 w') := hg
    clear hg ha hfo hx hT h hA hC hb0 hw0
    go_enter Try.func20, Try.ntmps20
    go_wp2_with (go_at_call 31; refine HCl.out.mono ?_; rintro e w1 ⟨rfl, hb1⟩)
    have HB1 : Hid (Below w.heap.size w w1) := HB0.out.trans (hb1.mono HB0.out.size)
    have HA1 : Hid (w1.heap[w.heap.size]? = some (pbox v)) := (hb1.block _ (by omega)).trans HA.out
    have HC1 : Hid (w1.heap[w.heap.size + 1]? = some (pbox pl0)) := (hb1.block _ (by omega)).trans HC.out
    have hs1 : w.heap.size + 2 < w1.heap.size := by have := hb1.size; omega
    clear hb1
    refine wp_loop_rounds 1 ?_
    rw [rounds_succ]
    go_wp2_with (first | (go_at_call 45; refine (HL.out _ HB1.out).mono ?_; rintro e w' ⟨rfl, rfl⟩) | (go_at_call 46; refine (HG.out _ HB1.out).mono ?_; rintro e w2 ⟨rfl, hb2⟩; have HB2 : Hid (Below w.heap.size w (w2.alloc (pbox a))) := (HB1.out.trans (hb2.mono (by omega))).alloc (by have := hb2.size; omega) _; have HA2 : Hid ((w2.alloc (pbox a)).heap[w.heap.size]? = some (pbox v)) := (Below.heap_alloc _ _ _ (by have := hb2.size; omega)).trans ((hb2.block _ (by omega)).trans HA1.out); have HC2 : Hid ((w2.alloc (pbox a)).heap[w.heap.size + 1]? = some (pbox pl0)) := (Below.heap_alloc _ _ _ (by have := hb2.size; omega)).trans ((hb2.block _ (by omega)).trans HC1.out); have hs2 : w.heap.size + 2 < w2.heap.size := (by have := hb2.size; omega); clear hb2) | (go_at_call 47; refine (HZ.out _ HB2.out).mono ?_; rintro e w' ⟨rfl, rfl⟩))
    obtain ⟨w3, hw3⟩ : ∃ w3, w2.alloc (pbox a) = w3 := ⟨_, rfl⟩
    first | rw [show w2.alloc (Obj.cells #[.int .i64 a.1, .int .i64 a.2.1, .string a.2.2] 46) = w3 from hw3] | rw [hw3]
    have H11 : Hid (w3.heap[w2.heap.size]? = some (pbox a)) := by rw [← hw3]; exact heap_alloc_new _ _
    have hs3 : w2.heap.size < w3.heap.size := (Array.getElem?_eq_some_iff.1 H11.out).1
    have hne1 : w2.heap.size ≠ x := by omega
    have hne2 : w.heap.size ≠ x := by omega
    have hne3 : w.heap.size + 1 ≠ x := by omega
    have hne4 : x ≠ w2.heap.size := by omega
    have hne5 : x ≠ w.heap.size := by omega
    have hne6 : x ≠ w.heap.size + 1 := by omega
    rw [hw3] at HB2 HA2 HC2
    obtain ⟨q0, q1, q2⟩ := pbox_cells HA2.out
    clear hw3
    have hz3 : w.heap.size + 2 < w3.heap.size := by omega
    have HB2' := HB2.out.size
    go_region_held3 (fun w' => w'.cell? ⟨w.heap.size, 0, none⟩ = some (.int .i64 v.1) ∧ w'.cell? ⟨w.heap.size, 1, none⟩ = some (.int .i64 v.2.1) ∧ w'.cell? ⟨w.heap.size, 2, none⟩ = some (.string v.2.2)) (first | exact ⟨q0, q1, q2⟩ | exact PlAt.later hb4 ⟨q0, q1, q2⟩ | exact PlAt.set (PlAt.later hb4 ⟨q0, q1, q2⟩) hne2) (first
      | (go_at_call 49; refine (HWi.out _ HB2.out.drew hz3).mono ?_; rintro e w4 ⟨n', tp', rfl, hT3, hb4⟩)
      | (go_at_call 48; refine (HCa.out _ _ _ _ (HB2.out.drew.trans (hb4.mono HB2')) hT3).mono ?_; rintro e w5 ⟨rfl, rfl⟩))
    have HE : Hid (∀ w6, But (w.heap.size + 1) (w4.setCell ⟨x, 0, none⟩ (.pointer tp')) w6 → IndexAt S w6 x (ins key.data.toList v l) ∧ But x w w6) := fun w6 h6 => HEnd.out w4 n' tp' w6 (HB2.out.drew.trans (hb4.mono HB2')) hT3 h6
    have h11 : (w4.setCell ⟨x, 0, none⟩ (.pointer tp')).heap[w2.heap.size]? = some (pbox a) := (Below.heap_setCell _ _ _ _ hne1).trans ((hb4.block _ hs3).trans H11.out)
    have h6 : (w4.setCell ⟨x, 0, none⟩ (.pointer tp')).heap[w.heap.size + 1]? = some (pbox pl0) := (Below.heap_setCell _ _ _ _ hne3).trans ((hb4.block _ (show w.heap.size + 1 < w3.heap.size by omega)).trans HC2.out)
    obtain ⟨w5, hw5⟩ : ∃ w5, w4.setCell ⟨x, 0, none⟩ (.pointer tp') = w5 := ⟨_, rfl⟩
    rw [hw5] at HE h11 h6 ⊢
    obtain ⟨s0, s1, s2⟩ := pbox_cells h11
    obtain ⟨r0, r1, r2⟩ := pbox_cells h6
    have fr := pbox_free h6
    have hsn : w2.heap.size ≠ w.heap.size + 1 := by omega
    clear h11 h6 hw5 hT3 hb4
    go_wp2
    exact bodyPost_ret (v := .tuple #[plc a, .bool true, .int .i64 0]) (by simp [results, Try.results20, go_sem, r0, r1, r2, fr]) rfl ⟨⟨a.1, a.2.1, a.2.2, .inr rfl⟩, HE.out _ (((But.setO _ 0 _ _).trans (But.setO _ 1 _ _)).trans (But.setO _ 2 _ _))⟩
/-- All of some pairs put, one behind the other. -/
def puts (ps : List (ByteArray × Plc)) (l : List KV) : List KV := ps.foldl (fun l p => ins (kof p.1) p.2 l) l
theorem puts_snoc (ps : List (ByteArray × Plc)) (p : ByteArray × Plc) (l : List KV) : puts (ps ++ [p]) l = ins (kof p.1) p.2 (puts ps l) := by simp [puts]
theorem srt_puts {ps : List (ByteArray × Plc)} {l : List KV} (h : Srt l) : Srt (puts ps l) := by
  induction ps generalizing l with
  | nil => exact h
  | cons p ps ih => exact ih (srt_ins h)
theorem len_puts {ps : List (ByteArray × Plc)} {l : List KV} (h : Srt l) : (puts ps l).length ≤ l.length + ps.length := by
  induction ps generalizing l with
  | nil => simp [puts]
  | cons p ps ih =>
    have h1 := ih (l := ins (kof p.1) p.2 l) (srt_ins h)
    have h2 := len_ins_le (kof p.1) p.2 l h
    show (puts ps (ins (kof p.1) p.2 l)).length ≤ _
    simp; omega
/-- Where the value hangs on the key alone. -/
theorem mem_puts {f : ByteArray → Plc} {ks : List ByteArray} {l : List KV} {e : KV} : e ∈ puts (ks.map fun k => (k, f k)) l ↔ (∃ k ∈ ks, e = (kof k, f k)) ∨ (e ∈ l ∧ ∀ k ∈ ks, kof k ≠ e.1) := by
  induction ks generalizing l with
  | nil => simp [puts]
  | cons k ks ih =>
    show e ∈ puts (ks.map fun k => (k, f k)) (ins (kof k) (f k) l) ↔ _
    rw [ih, mem_ins]
    constructor
    · rintro (⟨k', h1, h2⟩ | ⟨h1 | ⟨h1, h2⟩, h3⟩)
      · exact .inl ⟨k', List.mem_cons_of_mem _ h1, h2⟩
      · exact .inl ⟨k, List.mem_cons_self, h1⟩
      · exact .inr ⟨h1, fun k' hk' => by
          rcases List.mem_cons.mp hk' with rfl | hk'
          · exact fun h => h2 h.symm
          · exact h3 k' hk'⟩
    · rintro (⟨k', h1, h2⟩ | ⟨h1, h2⟩)
      · rcases List.mem_cons.mp h1 with rfl | h1
        · by_cases h3 : ∃ k'' ∈ ks, kof k'' = kof k'
          · obtain ⟨k'', h4, h5⟩ := h3
            obtain rfl := kof_inj h5
            exact .inl ⟨k'', h4, h2⟩
          · exact .inr ⟨.inl h2, fun k'' h4 h5 => h3 ⟨k'', h4, by rw [h5, h2]⟩⟩
        · exact .inl ⟨k', h1, h2⟩
      · exact .inr ⟨.inr ⟨h1, fun h => h2 k List.mem_cons_self h.symm⟩, fun k' hk' => h2 k' (List.mem_cons_of_mem _ hk')⟩
/-- Is the text among those? -/
def mineB (keep : List ByteArray) (k : ByteArray) : Bool := keep.any fun a => kof a == kof k
theorem mineB_iff {keep : List ByteArray} {k : ByteArray} : mineB keep k = true ↔ k ∈ keep := by
  unfold mineB
  rw [List.any_eq_true]
  constructor
  · rintro ⟨a, h1, h2⟩
    obtain rfl := kof_inj (by simpa using h2)
    exact h1
  · intro h
    exact ⟨k, h, by simp⟩

end Go.Proofs.Ytcgjppacnhmjlaa
end
