/- Own texts: PChg, PPart. -/
import Derived.Test.YtcgjppacnhmjlaaFmBA
import Derived.Test.YtcgjppacnhmjlaaFmAX

section
set_option linter.unusedVariables false
set_option linter.unusedSimpArgs false
set_option linter.unusedSectionVars false
set_option linter.unusedVariables false
set_option linter.unusedSimpArgs false
namespace Go.Proofs.Ytcgjppacnhmjlaa
open Go.RowKit

/-- Union of trees, whatever the two are. -/
theorem unionTree_any {S : Nat → Prop} {w : World} {n1 n2 : Nat} {tp uq : Option Addr} {l m : List KV} (hS : Open S w) (hT : TreeN S n1 w tp l) (hU : TreeN S n2 w uq m) (hm : l.length + m.length ≤ 1000000) :
    Calls Try.prog 53 #[.pointer tp, .pointer uq] w fun e w' => ∃ n' tp', e = .returned (.pointer tp') ∧ TreeN S n' w' tp' (uni l m) ∧ Below w.heap.size w w' := by
  rcases hT with ⟨rfl, rfl⟩ | ⟨t, rfl, hR⟩
  · refine (union_nil uq w).mono ?_
    rintro e w' ⟨rfl, hw⟩
    subst hw
    exact ⟨n2, uq, rfl, by rw [nil_uni (srt_of hU)]; exact hU, Below.refl _ _⟩
  · rcases hU with ⟨rfl, rfl⟩ | ⟨u, rfl, hQ⟩
    · refine (union_none t w).mono ?_
      rintro e w' ⟨rfl, hw⟩
      subst hw
      exact ⟨n1, _, rfl, .inr ⟨t, rfl, hR⟩, Below.refl _ _⟩
    · refine (union_go 65 (c0 := []) (by simp) hS hR hQ (fun e _ => List.nil_prefix) (fun e _ => List.nil_prefix) hm).mono ?_
      rintro e w' ⟨t', rfl, h1, h2⟩
      exact ⟨65, _, rfl, .inr ⟨t', rfl, h1⟩, h2⟩

set_option maxRecDepth 100000 in
set_option maxHeartbeats 400000 in
/-- The function that Fill hands to change. -/
theorem fillFn_any {S : Nat → Prop} {w : World} {bx n1 n2 : Nat} {tp uq : Option Addr} {l m : List KV} (hS : Open S w) (hT : TreeN S n1 w tp l) (hU : TreeN S n2 w uq m) (hbx : w.cell? ⟨bx, 0, none⟩ = some (.pointer uq)) (hm : l.length + m.length ≤ 1000000) :
    Calls Try.prog 52 #[.pointer tp, .pointer (some ⟨bx, 0, none⟩)] w fun e w' => ∃ n' tp', e = .returned (.pointer tp') ∧ TreeN S n' w' tp' (uni l m) ∧ Below w.heap.size w w' := by
  have HU : Hid (Calls Try.prog 53 #[.pointer tp, .pointer uq] w fun e w' => ∃ n' tp', e = .returned (.pointer tp') ∧ TreeN S n' w' tp' (uni l m) ∧ Below w.heap.size w w') := unionTree_any hS hT hU hm
  clear hU hT
  go_enter Try.func52, Try.ntmps52
  go_wp2_with (go_at_call 53; refine HU.out.mono ?_; rintro e w' ⟨n', tp', rfl, h1, h2⟩)
  go_ret
  exact ⟨n', tp', rfl, h1, h2⟩

set_option maxRecDepth 100000 in
set_option maxHeartbeats 1000000 in
/-- change, with the function that Fill hands to it. -/
theorem change_fill {S : Nat → Prop} {w : World} {x bx n2 : Nat} {uq : Option Addr} {l m : List KV} (hS : Open S w) (h : IndexAt S w x l) (hU : TreeN S n2 w uq m) (hbx : w.cell? ⟨bx, 0, none⟩ = some (.pointer uq)) (hf : l.length + m.length ≤ 3000) :
    Calls Try.prog 51 #[.pointer (some ⟨x, 0, none⟩), .func (.func 52) #[] #[.pointer (some ⟨bx, 0, none⟩)]] w fun e w' => e = .returned (.int .i64 0) ∧ IndexAt S w' x (uni l m) ∧ But x w w' := by
  obtain ⟨n, tp, hx, hT⟩ := h.tree
  have hlt := idx_lt hx
  have hfew : (uni l m).length ≤ 3000 := Nat.le_trans (len_uni_le (srt_of hT)) hf
  have HL : Hid (∀ w1, Below w.heap.size w w1 → Calls Try.prog 45 #[.pointer (some ⟨x, 0, none⟩)] w1 fun e w' => e = .returned (.pointer tp) ∧ w' = w1) := fun w1 hb => load_any (idx_cell ((hb.block x hlt).trans hx)) (hT.on hb).ptr
  have HF : Hid (∀ w1, Below w.heap.size w w1 → Calls Try.prog 52 #[.pointer tp, .pointer (some ⟨bx, 0, none⟩)] w1 fun e w' => ∃ n' tp', e = .returned (.pointer tp') ∧ TreeN S n' w' tp' (uni l m) ∧ Below w.heap.size w w') := fun w1 hb => (fillFn_any (hS.later hb) (hT.on hb) (hU.on hb) (cell_later hb hbx) (by omega)).mono fun e w' he => by
    obtain ⟨n', tp', h1, h2, h3⟩ := he; exact ⟨n', tp', h1, h2, hb.trans (h3.mono hb.size)⟩
  have HZ : Hid (∀ w1 n' tq, TreeN S n' w1 tq (uni l m) → Calls Try.prog 47 #[.pointer tq] w1 fun e w' => e = .returned (.int .i64 (uni l m).length) ∧ w' = w1) := fun w1 n' tq hq => size_any hq
  have HCa : Hid (∀ w1 n' tq L, Below w.heap.size w w1 → TreeN S n' w1 tq L → Calls Try.prog 48 #[.pointer (some ⟨x, 0, none⟩), .pointer tp, .pointer tq] w1 fun e w' => e = .returned (.bool true) ∧ w' = w1.setCell ⟨x, 0, none⟩ (.pointer tq)) := fun w1 n' tq L hb hq => cas_any (idx_cell ((hb.block x hlt).trans hx)) (idx_free ((hb.block x hlt).trans hx)) (hT.on hb).ptr hq.ptr
  have HEnd : Hid (∀ w1 n' tq, Below w.heap.size w w1 → TreeN S n' w1 tq (uni l m) → IndexAt S (w1.setCell ⟨x, 0, none⟩ (.pointer tq)) x (uni l m) ∧ But x w (w1.setCell ⟨x, 0, none⟩ (.pointer tq))) := fun w1 n' tq hb hq => ⟨IndexAt.swap ((hb.block x hlt).trans hx) h.out hq hfew, (But.of_below hb).trans (But.set x w1 _)⟩
  have HB0 : Hid (Below w.heap.size w w) := Below.refl _ _
  have hfI : ¬ (3000 : Int) < ((uni l m).length : Int) := by omega
  generalize (uni l m).length = un at *
  clear hx hT h hU hbx hfew
  go_enter Try.func51, Try.ntmps51
  go_wp2
  refine wp_loop_rounds 1 ?_
  rw [rounds_succ]
  go_wp2_with (first
    | (go_at_call 45; refine (HL.out _ HB0.out).mono ?_; rintro e w' ⟨rfl, rfl⟩)
    | (go_at_call 52; refine (HF.out _ HB0.out).mono ?_; rintro e w2 ⟨n', tq, rfl, hT2, hb2⟩)
    | (go_at_call 47; refine (HZ.out _ _ _ hT2).mono ?_; rintro e w' ⟨rfl, rfl⟩)
    | (go_at_call 48; refine (HCa.out _ _ _ _ hb2 hT2).mono ?_; rintro e w4 ⟨rfl, rfl⟩))
  go_ret
  exact ⟨rfl, HEnd.out _ _ _ hb2 hT2⟩

end Go.Proofs.Ytcgjppacnhmjlaa
end

section
set_option linter.unusedVariables false
set_option linter.unusedSimpArgs false
set_option linter.unusedSectionVars false
set_option linter.unusedVariables false
set_option linter.unusedSimpArgs false
namespace Go.Proofs.Ytcgjppacnhmjlaa
open Go.RowKit

abbrev PP := ByteArray × Plc
/-- A pair lies in the four cells from o on. -/
def PrAt (w : World) (k o : Nat) (p : PP) : Prop := w.cell? ⟨k, o, none⟩ = some (.string p.1) ∧ w.cell? ⟨k, o + 1, none⟩ = some (.int .i64 p.2.1) ∧ w.cell? ⟨k, o + 2, none⟩ = some (.int .i64 p.2.2.1) ∧ w.cell? ⟨k, o + 3, none⟩ = some (.string p.2.2.2)
/-- A list of pairs lies in the cells of block k from o on. -/
def PairsAt (w : World) (k o : Nat) (ps : List PP) : Prop := ∀ (i : Nat) p, ps[i]? = some p → PrAt w k (o + i * 4) p
theorem PrAt.later {w w' : World} {k o : Nat} {p : PP} (h : PrAt w k o p) (hb : Below w.heap.size w w') : PrAt w' k o p := ⟨cell_later hb h.1, cell_later hb h.2.1, cell_later hb h.2.2.1, cell_later hb h.2.2.2⟩

theorem part_nil (ao : Option Addr) (c : Nat) (w : World) :
    Calls Try.prog 87 #[.slice ao 0 c] w fun e w' => e = .returned (.tuple #[.pointer none, .int .i64 0]) ∧ w' = w := by
  go_enter Try.func87, Try.ntmps87
  go_wp2
  refine wp_loop_rounds 1 ?_
  rw [rounds_succ]
  go_wp2
  refine wp_loop_rounds 1 ?_
  rw [rounds_succ]
  go_wp2
  go_ret2
  exact ⟨rfl, rfl⟩

theorem puts_take_succ (ps : List PP) (j : Nat) (p : PP) (h : ps[j]? = some p) (l : List KV) : puts (ps.take (j + 1)) l = ins (kof p.1) p.2 (puts (ps.take j) l) := by
  rw [List.take_add_one, h]; simpa using puts_snoc (ps.take j) p l
theorem take_len_puts (ps : List PP) (j : Nat) : (puts (ps.take j) []).length ≤ j := by
  have := len_puts (ps := ps.take j) (l := []) (by simp [Srt])
  have h2 : (ps.take j).length ≤ j := by simp; omega
  simp at this; omega

set_option maxRecDepth 100000 in
set_option maxHeartbeats 1000000 in
theorem part_some {S : Nat → Prop} {w : World} {k o c : Nat} {ps : List PP} (hS : Open S w) (hP : PairsAt w k o ps) (hk : ∀ p ∈ ps, p.1.size ≤ 64) (hl : ps.length ≤ 3000) (h0 : 0 < ps.length) :
    Calls Try.prog 87 #[.slice (some ⟨k, o, none⟩) ps.length c] w fun e w' => ∃ n tp, e = .returned (.tuple #[.pointer tp, .int .i64 0]) ∧ TreeN S n w' tp (puts ps []) ∧ Below w.heap.size w w' := by
  have HP : Hid (PairsAt w k o ps) := hP
  have HK : Hid (∀ p ∈ ps, p.1.size ≤ 64) := hk
  have HS : Hid (Open S w) := hS
  clear hP hk hS
  go_enter Try.func87, Try.ntmps87
  go_wp2
  go_loopg [11] ps.length (fun gk i wr => ∃ j : Nat, j ≤ ps.length ∧ gk + j = ps.length ∧ i = .int .i64 j ∧ Hid (Below w.heap.size w wr))
  case atStart => exact ⟨0, Nat.zero_le _, by omega, rfl, Below.refl _ _⟩
  case round =>
    obtain ⟨j, hj, hg, rfl, HB⟩ := hrel
    by_cases hlt : j < ps.length
    · obtain ⟨p, hp⟩ : ∃ p, ps[j]? = some p := ⟨ps[j], List.getElem?_eq_getElem hlt⟩
      obtain ⟨c0, c1, c2, c3⟩ := (HP.out j p hp).later HB.out
      have hps := HK.out p (List.mem_of_getElem? hp)
      clear hp
      go_wp2
      go_roundg (gk - 1)
      case measure => omega
      case rel => exact ⟨j + 1, by omega, by omega, by go_num, HB.out.alloc HB.out.size _⟩
    · have hj2 : j = ps.length := by omega
      subst hj2
      have HB0 : Hid (Below w.heap.size w wr) := HB
      go_wp2
      go_loopg [6, 22] ps.length (fun gk tv i wr => ∃ (j n : Nat) (tp : Option Addr), j ≤ ps.length ∧ gk + j = ps.length ∧ tv = .pointer tp ∧ i = .int .i64 j ∧ Hid (TreeN S n wr tp (puts (ps.take j) [])) ∧ Hid (Below w.heap.size w wr))
      case atStart => exact ⟨0, 0, none, Nat.zero_le _, by omega, rfl, rfl, .inl ⟨rfl, rfl⟩, HB0⟩
      case round =>
        obtain ⟨j, n, tp, hj, hg, rfl, rfl, HT, HB⟩ := hrel
        by_cases hlt : j < ps.length
        · obtain ⟨p, hp⟩ : ∃ p, ps[j]? = some p := ⟨ps[j], List.getElem?_eq_getElem hlt⟩
          obtain ⟨c0, c1, c2, c3⟩ := (HP.out j p hp).later HB.out
          have hps := HK.out p (List.mem_of_getElem? hp)
          have HN : Hid (puts (ps.take (j + 1)) [] = ins (kof p.1) p.2 (puts (ps.take j) [])) := puts_take_succ ps j p hp []
          have hlen := take_len_puts ps j
          clear hp
          generalize hL : puts (ps.take j) [] = L at HT HN hlen
          clear hL
          obtain ⟨wa, hwa⟩ : ∃ wa, wr.alloc (.cells #[.string p.1, .int .i64 p.2.1, .int .i64 p.2.2.1, .string p.2.2.2] 50) = wa := ⟨_, rfl⟩
          have hbA : Below w.heap.size w wa := hwa ▸ HB.out.alloc HB.out.size _
          have hA : wa.heap[wr.heap.size]? = some (.cells #[.string p.1, .int .i64 p.2.1, .int .i64 p.2.2.1, .string p.2.2.2] 50) := hwa ▸ heap_alloc_new _ _
          have q0 : wa.cell? ⟨wr.heap.size, 0, none⟩ = some (.string p.1) := by simp [World.cell?, hA]
          have q1 : wa.cell? ⟨wr.heap.size, 1, none⟩ = some (.int .i64 p.2.1) := by simp [World.cell?, hA]
          have q2 : wa.cell? ⟨wr.heap.size, 2, none⟩ = some (.int .i64 p.2.2.1) := by simp [World.cell?, hA]
          have q3 : wa.cell? ⟨wr.heap.size, 3, none⟩ = some (.string p.2.2.2) := by simp [World.cell?, hA]
          have HTa : Hid (TreeN S n wa tp L) := hwa ▸ HT.out.on (below_alloc _ _)
          have HZ : Hid (Calls Try.prog 47 #[.pointer tp] wa fun e w' => e = .returned (.int .i64 L.length) ∧ w' = wa) := size_any HTa.out
          have HBa : Hid (Below w.heap.size w wa) := hbA
          have HCl : Hid (∀ w1, Below wa.heap.size wa w1 → Calls Try.prog 31 #[.string p.1] w1 fun e w' => e = .returned (.string p.1) ∧ Below wa.heap.size wa w') := fun w1 hb => (clone_any p.1 w1 (by omega)).mono fun e w' he => ⟨he.1, hb.trans (he.2.mono hb.size)⟩
          have HW : Hid (∀ w1, Below wa.heap.size wa w1 → Calls Try.prog 49 #[.pointer tp, .string p.1, plc p.2] w1 fun e w' => ∃ n' tp', e = .returned (.pointer tp') ∧ TreeN S n' w' tp' (ins (kof p.1) p.2 L) ∧ Below wa.heap.size wa w') := fun w1 hb => (withTree_any (w := w1) (HS.out.later (HBa.out.trans (hb.mono HBa.out.size))) (HTa.out.on hb) hps (by omega)).mono fun e w' he => by
            obtain ⟨n', tp', h1, h2, h3⟩ := he; exact ⟨n', tp', h1, h2, hb.trans (h3.mono hb.size)⟩
          have HR0 : Hid (Below wa.heap.size wa wa.drew) := (Below.refl _ _).drew
          have hfI : ¬ (3000 : Int) < (L.length : Int) := by omega
          clear hbA hA
          go_wp2_with (go_at_call 47; refine HZ.out.mono ?_; rintro e w' ⟨rfl, rfl⟩)
          clear hwa
          go_region_held3 (fun w' => w'.cell? ⟨wr.heap.size, 0, none⟩ = some (.string p.1) ∧ w'.cell? ⟨wr.heap.size, 1, none⟩ = some (.int .i64 p.2.1) ∧ w'.cell? ⟨wr.heap.size, 2, none⟩ = some (.int .i64 p.2.2.1) ∧ w'.cell? ⟨wr.heap.size, 3, none⟩ = some (.string p.2.2.2)) (first | exact ⟨q0, q1, q2, q3⟩ | exact ⟨cell_later hb2 q0, cell_later hb2 q1, cell_later hb2 q2, cell_later hb2 q3⟩ | exact ⟨cell_later hb1 q0, cell_later hb1 q1, cell_later hb1 q2, cell_later hb1 q3⟩) (first
            | (go_at_call 31; refine (HCl.out _ HR0.out).mono ?_; rintro e w1 ⟨rfl, hb1⟩)
            | (go_at_call 49; refine (HW.out _ hb1).mono ?_; rintro e w2 ⟨n', tp', rfl, hT2, hb2⟩))
          go_wp2
          go_roundg (gk - 1)
          case measure => omega
          case rel => exact ⟨j + 1, n', tp', by omega, by omega, rfl, by go_num, by rw [HN.out]; exact hT2, HBa.out.trans (hb2.mono HBa.out.size)⟩
        · have hj2 : j = ps.length := by omega
          subst hj2
          have HF : Hid (TreeN S n wr tp (puts ps [])) := by have := HT.out; rwa [List.take_length] at this
          clear HT
          go_wp2
          go_ret2
          exact ⟨n, tp, rfl, HF.out, HB.out⟩

/-- treeOfPart, whatever the part is. -/
theorem part_any {S : Nat → Prop} {w : World} {v : Value} {ps : List PP} (hS : Open S w) (hP : (ps = [] ∧ ∃ ao c, v = .slice ao 0 c) ∨ ∃ k o c, v = .slice (some ⟨k, o, none⟩) ps.length c ∧ PairsAt w k o ps ∧ 0 < ps.length) (hk : ∀ p ∈ ps, p.1.size ≤ 64) (hl : ps.length ≤ 3000) :
    Calls Try.prog 87 #[v] w fun e w' => ∃ n tp, e = .returned (.tuple #[.pointer tp, .int .i64 0]) ∧ TreeN S n w' tp (puts ps []) ∧ Below w.heap.size w w' := by
  rcases hP with ⟨rfl, ao, c, rfl⟩ | ⟨k, o, c, rfl, hP, h0⟩
  · refine (part_nil ao c w).mono ?_
    rintro e w' ⟨rfl, rfl⟩
    exact ⟨0, none, rfl, .inl ⟨rfl, rfl⟩, Below.refl _ _⟩
  · exact part_some hS hP hk hl h0

end Go.Proofs.Ytcgjppacnhmjlaa
end
