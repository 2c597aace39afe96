/- Own texts: PShape. -/
import Derived.Test.YtcgjppacnhmjlaaFmAU

section
set_option linter.unusedVariables false
set_option linter.unusedSimpArgs false
set_option linter.unusedSectionVars false
set_option linter.unusedVariables false
set_option linter.unusedSimpArgs false
namespace Go.Proofs.Ytcgjppacnhmjlaa
open Go.RowKit

/-- A shape that is being counted. -/
def shp (a : Nat → Nat) (h : Nat) : Obj := .cells #[.int .i64 (a 0), .int .i64 (a 1), .int .i64 (a 2), .int .i64 (a 3), .int .i64 (a 4), .int .i64 h] 33
/-- Nothing but block sb has turned; it holds the shape a now. -/
structure Wrote (sb : Nat) (a : Nat → Nat) (h : Nat) (w w' : World) : Prop where
  os : w'.os = w.os
  tape : w'.tape = w.tape
  output : w'.output = w.output
  size : w'.heap.size = w.heap.size
  same : ∀ k, k ≠ sb → w'.heap[k]? = w.heap[k]?
  blk : w'.heap[sb]? = some (shp a h)
theorem Wrote.trans {sb : Nat} {a b : Nat → Nat} {h g : Nat} {w w1 w2 : World} (x : Wrote sb a h w w1) (y : Wrote sb b g w1 w2) : Wrote sb b g w w2 :=
  ⟨y.os.trans x.os, y.tape.trans x.tape, y.output.trans x.output, y.size.trans x.size, fun k hk => (y.same k hk).trans (x.same k hk), y.blk⟩
theorem shp_cell {w : World} {sb : Nat} {a : Nat → Nat} {h : Nat} (hb : w.heap[sb]? = some (shp a h)) : w.cell? ⟨sb, 0, none⟩ = some (.int .i64 (a 0)) ∧ w.cell? ⟨sb, 1, none⟩ = some (.int .i64 (a 1)) ∧ w.cell? ⟨sb, 2, none⟩ = some (.int .i64 (a 2)) ∧ w.cell? ⟨sb, 3, none⟩ = some (.int .i64 (a 3)) ∧ w.cell? ⟨sb, 4, none⟩ = some (.int .i64 (a 4)) ∧ w.cell? ⟨sb, 5, none⟩ = some (.int .i64 h) := by
  simp [World.cell?, hb, shp]
theorem shp_free {w : World} {sb : Nat} {a : Nat → Nat} {h : Nat} (hb : w.heap[sb]? = some (shp a h)) (o : Nat) : w.frozen? ⟨sb, o, none⟩ = false := by
  simp [World.frozen?, hb, shp]
def bump (a : Nat → Nat) (i : Nat) : Nat → Nat := fun j => a j + one i j
theorem wrote_bump {w : World} {sb : Nat} {a : Nat → Nat} {h : Nat} (hb : w.heap[sb]? = some (shp a h)) (i : Nat) (hi : i < 5) : Wrote sb (bump a i) h w (w.setCell ⟨sb, i, none⟩ (.int .i64 ((a i : Int) + 1))) := by
  refine ⟨rfl, rfl, rfl, by simp [World.setCell], fun k hk => Below.heap_setCell _ _ _ _ hk, ?_⟩
  simp only [World.setCell, Array.getElem?_modify, if_true, hb, Option.map_some]
  have : i = 0 ∨ i = 1 ∨ i = 2 ∨ i = 3 ∨ i = 4 := by omega
  rcases this with rfl | rfl | rfl | rfl | rfl <;> simp [shp, bump, one]
theorem wrote_height {w : World} {sb : Nat} {a : Nat → Nat} {h : Nat} (hb : w.heap[sb]? = some (shp a h)) (g : Nat) : Wrote sb a g w (w.setCell ⟨sb, 5, none⟩ (.int .i64 (g : Int))) := by
  refine ⟨rfl, rfl, rfl, by simp [World.setCell], fun k hk => Below.heap_setCell _ _ _ _ hk, ?_⟩
  simp only [World.setCell, Array.getElem?_modify, if_true, hb, Option.map_some]
  simp [shp]

set_option maxHeartbeats 400000 in
theorem countNode_any {w : World} {sb n : Nat} {a : Nat → Nat} {h : Nat} (hb : w.heap[sb]? = some (shp a h)) (hn : n ≤ 256) (ha : ∀ j, a j ≤ 1000000000) :
    Calls Try.prog 101 #[.pointer (some ⟨sb, 0, none⟩), .int .i64 n] w fun e w' => e = .returned (.tuple #[]) ∧ Wrote sb (bump a (kindIx n)) h w w' := by
  obtain ⟨c0, c1, c2, c3, c4, _⟩ := shp_cell hb
  have f1 := shp_free hb 1
  have f2 := shp_free hb 2
  have f3 := shp_free hb 3
  have f4 := shp_free hb 4
  have a1 := ha 1
  have a2 := ha 2
  have a3 := ha 3
  have a4 := ha 4
  have HB : Hid (w.heap[sb]? = some (shp a h)) := hb
  clear hb ha
  by_cases h1 : n ≤ 4
  · have hk : kindIx n = 1 := by simp [kindIx, h1]
    rw [hk]
    clear hk
    go_enter Try.func101, Try.ntmps101
    go_wp2
    go_end0
    exact ⟨rfl, wrote_bump HB.out 1 (by decide)⟩
  · by_cases h2 : n ≤ 16
    · have hk : kindIx n = 2 := by simp [kindIx, h1, h2]
      rw [hk]
      clear hk
      go_enter Try.func101, Try.ntmps101
      go_wp2
      go_end0
      exact ⟨rfl, wrote_bump HB.out 2 (by decide)⟩
    · by_cases h3 : n ≤ 48
      · have hk : kindIx n = 3 := by simp [kindIx, h1, h2, h3]
        rw [hk]
        clear hk
        go_enter Try.func101, Try.ntmps101
        go_wp2
        go_end0
        exact ⟨rfl, wrote_bump HB.out 3 (by decide)⟩
      · have hk : kindIx n = 4 := by simp [kindIx, h1, h2, h3]
        rw [hk]
        clear hk
        go_enter Try.func101, Try.ntmps101
        go_wp2
        go_end0
        exact ⟨rfl, wrote_bump HB.out 4 (by decide)⟩

theorem tally_nil (sb : Nat) (w : World) : Calls Try.prog 92 #[.pointer none, .pointer (some ⟨sb, 0, none⟩)] w fun e w' => e = .returned (.int .i64 0) ∧ w' = w := by
  go_enter Try.func92, Try.ntmps92
  go_wp2
  go_ret
  exact ⟨rfl, rfl⟩
set_option maxHeartbeats 400000 in
theorem tally_leaf {w : World} {t sb : Nat} {a : Nat → Nat} {h : Nat} (hv : w.cell? ⟨t, 2, none⟩ = some (.slice none 0 0)) (hb : w.heap[sb]? = some (shp a h)) (ha : a 0 ≤ 1000000000) :
    Calls Try.prog 92 #[.pointer (some ⟨t, 0, none⟩), .pointer (some ⟨sb, 0, none⟩)] w fun e w' => e = .returned (.int .i64 1) ∧ Wrote sb (bump a 0) h w w' := by
  obtain ⟨c0, _⟩ := shp_cell hb
  have f0 := shp_free hb 0
  have HB : Hid (w.heap[sb]? = some (shp a h)) := hb
  clear hb
  go_enter Try.func92, Try.ntmps92
  go_wp2
  go_ret
  exact ⟨rfl, wrote_bump HB.out 0 (by decide)⟩


def upTo (a : Nat → Nat) (cl : List (Nat → Nat)) (i : Nat) : Nat → Nat := fun j => a j + sumAt (cl.take i) j
theorem take_snoc' {α : Type} (L : List α) (i : Nat) (x : α) (h : L[i]? = some x) : L.take (i + 1) = L.take i ++ [x] := by rw [List.take_add_one, h]; rfl
theorem upTo_succ (a : Nat → Nat) (cl : List (Nat → Nat)) (i : Nat) (c : Nat → Nat) (h : cl[i]? = some c) : upTo a cl (i + 1) = fun j => upTo a cl i j + c j := by
  funext j; unfold upTo; rw [take_snoc' cl i c h, sumAt_snoc]; omega
theorem upTo_zero (a : Nat → Nat) (cl : List (Nat → Nat)) : upTo a cl 0 = a := by funext j; simp [upTo, sumAt]
theorem maxOf_take_succ (hl : List Nat) (i x : Nat) (h : hl[i]? = some x) : maxOf (hl.take (i + 1)) = max (maxOf (hl.take i)) x := by rw [take_snoc' hl i x h, maxOf_snoc]
theorem Wrote.refl {sb : Nat} {a : Nat → Nat} {h : Nat} {w : World} (hb : w.heap[sb]? = some (shp a h)) : Wrote sb a h w w := ⟨rfl, rfl, rfl, rfl, fun _ _ => rfl, hb⟩
theorem Wrote.cell {sb : Nat} {a : Nat → Nat} {h : Nat} {w w' : World} (x : Wrote sb a h w w') {b o : Nat} {v : Value} (hb : b ≠ sb) (hc : w.cell? ⟨b, o, none⟩ = some v) : w'.cell? ⟨b, o, none⟩ = some v :=
  (World.cell?_of_block (w := w) (a := ⟨b, o, none⟩) (x.same b hb)).trans hc

set_option maxRecDepth 100000 in
set_option maxHeartbeats 1000000 in
theorem tally_node {w : World} {t sb k o cap : Nat} {a : Nat → Nat} {h : Nat} {cs : List Nat} {cl : List (Nat → Nat)} {hl : List Nat} (hv : w.cell? ⟨t, 2, none⟩ = some (.slice (some ⟨k, o, none⟩) cs.length cap)) (hBr : BrAt w k o cs) (hts : t ≠ sb) (hks : k ≠ sb) (hne : cs ≠ []) (hlen : cs.length ≤ 256)
    (hcl : cl.length = cs.length) (hhl : hl.length = cs.length) (hb : w.heap[sb]? = some (shp a h)) (hmx : ∀ x ∈ hl, x ≤ 100000000) (ha : ∀ i j, upTo a cl i j ≤ 1000000000)
    (hC : ∀ (i c : Nat) ci hi, cs[i]? = some c → cl[i]? = some ci → hl[i]? = some hi → ∀ w1, (∀ k, k ≠ sb → w1.heap[k]? = w.heap[k]?) → w1.heap[sb]? = some (shp (upTo a cl i) h) → Calls Try.prog 92 #[.pointer (some ⟨c, 0, none⟩), .pointer (some ⟨sb, 0, none⟩)] w1 fun e w' => e = .returned (.int .i64 hi) ∧ Wrote sb (fun j => upTo a cl i j + ci j) h w1 w') :
    Calls Try.prog 92 #[.pointer (some ⟨t, 0, none⟩), .pointer (some ⟨sb, 0, none⟩)] w fun e w' => e = .returned (.int .i64 ((maxOf hl + 1 : Nat) : Int)) ∧ Wrote sb (bump (upTo a cl cs.length) (kindIx cs.length)) h w w' := by
  have HC : Hid (∀ (i c : Nat) ci hi, cs[i]? = some c → cl[i]? = some ci → hl[i]? = some hi → ∀ w1, (∀ k, k ≠ sb → w1.heap[k]? = w.heap[k]?) → w1.heap[sb]? = some (shp (upTo a cl i) h) → Calls Try.prog 92 #[.pointer (some ⟨c, 0, none⟩), .pointer (some ⟨sb, 0, none⟩)] w1 fun e w' => e = .returned (.int .i64 hi) ∧ Wrote sb (fun j => upTo a cl i j + ci j) h w1 w') := hC
  have HBr : Hid (BrAt w k o cs) := hBr
  have HB : Hid (w.heap[sb]? = some (shp a h)) := hb
  have HV : Hid (w.cell? ⟨t, 2, none⟩ = some (.slice (some ⟨k, o, none⟩) cs.length cap)) := hv
  have HA : Hid (∀ i j, upTo a cl i j ≤ 1000000000) := ha
  have HM : Hid (∀ x ∈ hl, x ≤ 100000000) := hmx
  have hpos : 0 < cs.length := List.length_pos_iff.mpr hne
  have hz : ((cs.length : Int) == 0) = false := by simp; omega
  clear hC hBr hb ha hmx hne
  go_enter Try.func92, Try.ntmps92
  go_wp2
  go_loopg [5, 28] cs.length (fun gk s5 s28 wr => ∃ j : Nat, j ≤ cs.length ∧ gk + j = cs.length ∧ s5 = .int .i64 (maxOf (hl.take j) : Nat) ∧ s28 = .int .i64 j ∧ Hid (Wrote sb (upTo a cl j) h w wr))
  case atStart => exact ⟨0, Nat.zero_le _, by omega, rfl, rfl, by rw [upTo_zero]; exact Wrote.refl HB.out⟩
  case round =>
    obtain ⟨j, hj, hg, rfl, rfl, HW⟩ := hrel
    by_cases hlt : j < cs.length
    · obtain ⟨c, hc⟩ : ∃ c, cs[j]? = some c := ⟨cs[j], List.getElem?_eq_getElem hlt⟩
      obtain ⟨ci, hci⟩ : ∃ c, cl[j]? = some c := ⟨cl[j]'(by omega), List.getElem?_eq_getElem _⟩
      obtain ⟨hi, hhi⟩ : ∃ c, hl[j]? = some c := ⟨hl[j]'(by omega), List.getElem?_eq_getElem _⟩
      have hcell := HW.out.cell hks (HBr.out j c hc)
      have HCi : Hid (Calls Try.prog 92 #[.pointer (some ⟨c, 0, none⟩), .pointer (some ⟨sb, 0, none⟩)] wr fun e w' => e = .returned (.int .i64 hi) ∧ Wrote sb (fun x => upTo a cl j x + ci x) h wr w') := HC.out j c ci hi hc hci hhi wr HW.out.same HW.out.blk
      have h1 : hi ≤ 100000000 := HM.out hi (List.mem_of_getElem? hhi)
      have h2 : maxOf (hl.take j) ≤ 100000000 := maxOf_le fun x hx => HM.out x (List.mem_of_mem_take hx)
      have HS : Hid (maxOf (hl.take (j + 1)) = max (maxOf (hl.take j)) hi) := maxOf_take_succ hl j hi hhi
      have HU : Hid (upTo a cl (j + 1) = fun x => upTo a cl j x + ci x) := upTo_succ a cl j ci hci
      clear hc hci hhi
      generalize maxOf (hl.take j) = m0 at *
      go_wp2_with (go_at_call 92; refine HCi.out.mono ?_; rintro e w' ⟨rfl, hw1⟩; have HW1 : Hid (Wrote sb (fun x => upTo a cl j x + ci x) h w w') := HW.out.trans hw1; clear hw1)
      all_goals
        go_roundg (gk - 1)
        case measure => omega
        case rel => exact ⟨j + 1, by omega, by omega, by rw [HS.out]; exact congrArg _ (by rw [Nat.max_def]; split <;> omega), by go_num, by rw [HU.out]; exact HW1.out⟩
    · have ej : j = cs.length := by omega
      subst ej
      have hvr := HW.out.cell hts HV.out
      have HN : Hid (Calls Try.prog 101 #[.pointer (some ⟨sb, 0, none⟩), .int .i64 cs.length] wr fun e w' => e = .returned (.tuple #[]) ∧ Wrote sb (bump (upTo a cl cs.length) (kindIx cs.length)) h wr w') := countNode_any HW.out.blk hlen (fun x => HA.out _ x)
      have HE : Hid (hl.take cs.length = hl) := by show _ = _; rw [List.take_of_length_le (by omega)]
      have h2 : maxOf (hl.take cs.length) ≤ 100000000 := maxOf_le fun x hx => HM.out x (List.mem_of_mem_take hx)
      go_wp2_with (go_at_call 101; refine HN.out.mono ?_; rintro e w' ⟨rfl, hw1⟩; have HW1 : Hid (Wrote sb (bump (upTo a cl cs.length) (kindIx cs.length)) h w w') := HW.out.trans hw1; clear hw1)
      go_ret
      exact ⟨ret_int (by rw [HE.out]; simp), HW1.out⟩

/-- Out of one answer each, lists of answers. -/
theorem pick_lists {cs : List Nat} {gs : List (List KV)} {P : Nat → List KV → (Nat → Nat) → Nat → Prop} (hl : cs.length = gs.length) (h : ∀ (i c : Nat) g, cs[i]? = some c → gs[i]? = some g → ∃ ci gi, P c g ci gi) :
    ∃ (cl : List (Nat → Nat)) (hlL : List Nat), cl.length = gs.length ∧ hlL.length = gs.length ∧ ∀ (i c : Nat) g c' h', cs[i]? = some c → gs[i]? = some g → cl[i]? = some c' → hlL[i]? = some h' → P c g c' h' := by
  induction cs generalizing gs with
  | nil =>
    have : gs = [] := List.length_eq_zero_iff.mp (by rw [← hl]; rfl)
    subst this
    exact ⟨[], [], rfl, rfl, fun i c g c' h' h1 => by simp at h1⟩
  | cons c cs ih =>
    cases gs with
    | nil => simp at hl
    | cons g gs =>
      obtain ⟨ci, gi, h0⟩ := h 0 c g rfl rfl
      obtain ⟨cl, hlL, l1, l2, hk⟩ := ih (gs := gs) (by simpa using hl) (fun i c' g' a b => h (i + 1) c' g' (by simpa using a) (by simpa using b))
      refine ⟨ci :: cl, gi :: hlL, by simp [l1], by simp [l2], fun i c1 g1 c' h' a1 a2 a3 a4 => ?_⟩
      cases i with
      | zero => simp at a1 a2 a3 a4; subst a1; subst a2; subst a3; subst a4; exact h0
      | succ i => exact hk i c1 g1 c' h' (by simpa using a1) (by simpa using a2) (by simpa using a3) (by simpa using a4)

theorem tally_any : ∀ (n : Nat) {S : Nat → Prop} {w : World} {t sb : Nat} {l : List KV} {a : Nat → Nat} {h : Nat}, RepN S n w t l → ¬ S sb → w.heap[sb]? = some (shp a h) → (∀ j, a j + 2 * l.length ≤ 100000000) →
    ∃ c g, ShapeOf n l c g ∧ Calls Try.prog 92 #[.pointer (some ⟨t, 0, none⟩), .pointer (some ⟨sb, 0, none⟩)] w fun e w' => e = .returned (.int .i64 (g : Nat)) ∧ Wrote sb (fun j => a j + c j) h w w'
  | 0, _, _, _, _, _, _, _, H, _, _, _ => H.elim
  | n + 1, S, w, t, sb, l, a, h, ⟨pre, vp, bv, ov, cs, xs, gs, hN, hO, hR, hl, hC, hs⟩, hS, hb, ha => by
    have hlen := hs.len
    have hcs : cs.length ≤ 256 := by have := pw_len hs.grps.pw; have := hs.grps.len; omega
    have hts : t ≠ sb := fun e => hS (e ▸ hN.inS)
    rcases hR with ⟨rfl, rfl⟩ | ⟨k, o, cap, h1, rfl, h3, h4, h5, h6⟩
    · have hg : gs = [] := List.length_eq_zero_iff.mp (by rw [← hl]; rfl)
      refine ⟨one 0, 1, ⟨_, ov, xs, gs, hs, .inl ⟨hg, rfl, rfl⟩⟩, ?_⟩
      exact tally_leaf hN.c2 hb (by have := ha 0; omega)
    · have hks : k ≠ sb := fun e => hS (e ▸ h1)
      have hgne : gs ≠ [] := fun e => h6 (List.length_eq_zero_iff.mp (by rw [hl, e]; rfl))
      have hgl : ∀ (i : Nat) g, gs[i]? = some g → g.length ≤ l.length := by
        intro i g hg
        have h2 : g.length ≤ gs.flatten.length := (List.sublist_flatten_of_mem (List.mem_of_getElem? hg)).length_le
        have h3 : l.length = (ownL pre.data.toList ov).length + gs.flatten.length := by rw [hs.eq, List.length_append]
        omega
      -- the children's shapes
      have kid : ∀ (i c : Nat) g, cs[i]? = some c → gs[i]? = some g → ∃ ci gi, ShapeOf n g ci gi ∧ ∀ w1 a1, (∀ k, k ≠ sb → w1.heap[k]? = w.heap[k]?) → w1.heap[sb]? = some (shp a1 h) → (∀ j, a1 j + 2 * g.length ≤ 100000000) →
          Calls Try.prog 92 #[.pointer (some ⟨c, 0, none⟩), .pointer (some ⟨sb, 0, none⟩)] w1 fun e w' => e = .returned (.int .i64 (gi : Nat)) ∧ Wrote sb (fun j => a1 j + ci j) h w1 w' := by
        intro i c g hc hg
        have hr := hC i c g hc hg
        have hle := hgl i g hg
        obtain ⟨ci, gi, hsh, _⟩ := tally_any n hr hS hb (fun j => by have := ha j; omega)
        refine ⟨ci, gi, hsh, fun w1 a1 hsame hb1 ha1 => ?_⟩
        have hr1 : RepN S n w1 c g := hr.frame (fun k hk => hsame k (fun e => hS (e ▸ hk)))
        obtain ⟨c2, g2, hsh2, hcall⟩ := tally_any n hr1 hS hb1 ha1
        obtain ⟨rfl, rfl⟩ := hsh.uniq hsh2
        exact hcall
      obtain ⟨cl, hlL, l1, l2, hk⟩ : ∃ (cl : List (Nat → Nat)) (hlL : List Nat), cl.length = gs.length ∧ hlL.length = gs.length ∧ ∀ (i c : Nat) g c' h', cs[i]? = some c → gs[i]? = some g → cl[i]? = some c' → hlL[i]? = some h' → ShapeOf n g c' h' ∧ ∀ w1 a1, (∀ k, k ≠ sb → w1.heap[k]? = w.heap[k]?) → w1.heap[sb]? = some (shp a1 h) → (∀ j, a1 j + 2 * g.length ≤ 100000000) →
          Calls Try.prog 92 #[.pointer (some ⟨c, 0, none⟩), .pointer (some ⟨sb, 0, none⟩)] w1 fun e w' => e = .returned (.int .i64 (h' : Nat)) ∧ Wrote sb (fun j => a1 j + c' j) h w1 w' := by
        exact pick_lists hl kid
      have hshape : ShapeOf (n + 1) l (fun j => sumAt cl j + one (kindIx gs.length) j) (maxOf hlL + 1) := by
        refine ⟨_, ov, xs, gs, hs, .inr ⟨hgne, cl, hlL, l1, l2, ?_, rfl, rfl⟩⟩
        intro i g c' h' hg hc' hh'
        have hi := (List.getElem?_eq_some_iff.mp hg).1
        exact (hk i (cs[i]'(by omega)) g c' h' (List.getElem?_eq_getElem _) hg hc' hh').1
      have hbd := hshape.bounds
      have bd : ∀ (i : Nat) g c' h', gs[i]? = some g → cl[i]? = some c' → hlL[i]? = some h' → (∀ j, c' j + 1 ≤ 2 * g.length) ∧ h' ≤ g.length := by
        intro i g c' h' hg hc' hh'
        have hi := (List.getElem?_eq_some_iff.mp hg).1
        have := (hk i (cs[i]'(by omega)) g c' h' (List.getElem?_eq_getElem _) hg hc' hh').1.bounds
        exact ⟨this.1, this.2.1⟩
      have up : ∀ i j, upTo a cl i j + 2 * ((gs.drop i).map List.length).sum ≤ a j + 2 * l.length := by
        intro i j
        have h7 := sumAt_le (cl := cl.take i) (gs := gs.take i) (by simp; omega) (fun i' g c' hg hc' j => by
          rw [List.getElem?_take] at hg hc'
          split at hg
          · rw [if_pos ‹_›] at hc'
            have hi := (List.getElem?_eq_some_iff.mp hg).1
            exact (bd i' g c' (hlL[i']'(by omega)) hg hc' (List.getElem?_eq_getElem _)).1 j
          · cases hg) j
        have h8 : (gs.map List.length).sum = ((gs.take i).map List.length).sum + ((gs.drop i).map List.length).sum := by
          rw [← List.sum_append, ← List.map_append, List.take_append_drop]
        unfold upTo
        omega
      refine ⟨_, _, hshape, ?_⟩
      refine (tally_node (cl := cl) (hl := hlL) hN.c2 h5 hts hks h6 hcs (by omega) (by omega) hb ?_ ?_ ?_).mono ?_
      · intro x hx
        obtain ⟨i, hi⟩ := List.mem_iff_getElem?.mp hx
        have hil := (List.getElem?_eq_some_iff.mp hi).1
        have := (bd i (gs[i]'(by omega)) (cl[i]'(by omega)) x (List.getElem?_eq_getElem _) (List.getElem?_eq_getElem _) hi).2
        have := hgl i _ (List.getElem?_eq_getElem (by omega))
        have := ha 0
        omega
      · intro i j
        have := up i j; have := ha j; omega
      · intro i c ci hi hc hci hhi w1 hsame hb1
        have hil := (List.getElem?_eq_some_iff.mp hc).1
        have hg : gs[i]? = some (gs[i]'(by omega)) := List.getElem?_eq_getElem _
        refine (hk i c _ ci hi hc hg hci hhi).2 w1 _ hsame hb1 (fun j => ?_)
        have h9 : ((gs.drop i).map List.length).sum = (gs[i]'(by omega)).length + ((gs.drop (i + 1)).map List.length).sum := by rw [List.drop_eq_getElem_cons (l := gs) (i := i) (by omega), List.map_cons, List.sum_cons]
        have := up i j; have := ha j; omega
      · rintro e w' ⟨rfl, hw⟩
        refine ⟨rfl, ?_⟩
        have : bump (upTo a cl cs.length) (kindIx cs.length) = fun j => a j + (sumAt cl j + one (kindIx gs.length) j) := by
          funext j
          unfold bump upTo
          rw [List.take_of_length_le (by omega), hl]; omega
        rw [← this]; exact hw


theorem Wrote.below {sb : Nat} {a : Nat → Nat} {h B : Nat} {w w' : World} (x : Wrote sb a h w w') (hB : B ≤ sb) : Below B w w' :=
  ⟨x.os, x.tape, x.output, by rw [x.size]; exact Nat.le_refl _, fun k hk => x.same k (by omega)⟩
theorem old_new (w : World) (o p : Obj) : ((w.alloc o).alloc p).heap[w.heap.size]? = some o := by
  rw [Below.heap_alloc _ _ _ (by simp)]; exact heap_alloc_new w o
/-- A shape as a value. -/
def shapeV (c : Nat → Nat) (h : Nat) : Value := .agg #[.int .i64 (c 0), .int .i64 (c 1), .int .i64 (c 2), .int .i64 (c 3), .int .i64 (c 4), .int .i64 h]
/-- The shape of a list, of none too. -/
def ShapeL (l : List KV) (c : Nat → Nat) (h : Nat) : Prop := (l = [] ∧ c = (fun _ => 0) ∧ h = 0) ∨ ∃ n, ShapeOf n l c h
theorem ShapeL.uniq {l : List KV} {c c' : Nat → Nat} {h h' : Nat} (x : ShapeL l c h) (y : ShapeL l c' h') : c = c' ∧ h = h' := by
  rcases x with ⟨h1, rfl, rfl⟩ | ⟨n, x⟩
  · rcases y with ⟨_, rfl, rfl⟩ | ⟨m, y⟩
    · exact ⟨rfl, rfl⟩
    · have := y.bounds.2.2.1; rw [h1] at this; simp at this
  · rcases y with ⟨h1, rfl, rfl⟩ | ⟨m, y⟩
    · have := x.bounds.2.2.1; rw [h1] at this; simp at this
    · exact x.uniq y

set_option maxHeartbeats 400000 in
theorem shape_any {S : Nat → Prop} {w : World} {n : Nat} {tp : Option Addr} {l : List KV} (hT : TreeN S n w tp l) (hm : l.length ≤ 1000000) :
    ∃ c h, ShapeL l c h ∧ Calls Try.prog 54 #[.pointer tp] w fun e w' => e = .returned (shapeV c h) ∧ Below w.heap.size w w' := by
  rcases hT with ⟨rfl, rfl⟩ | ⟨t, rfl, hR⟩
  · refine ⟨fun _ => 0, 0, .inl ⟨rfl, rfl, rfl⟩, ?_⟩
    go_enter Try.func54, Try.ntmps54
    go_wp2_with (go_at_call 92; refine (tally_nil _ _).mono ?_; rintro e w' ⟨rfl, rfl⟩)
    exact bodyPost_ret (v := shapeV (fun _ => 0) 0) (by simp [results, Try.results54, go_sem, shapeV]) rfl ⟨rfl, ((Below.refl _ _).alloc (Nat.le_refl _) _).alloc (by simp) _⟩
  · have hb2 : Below w.heap.size w ((w.alloc (shp (fun _ => 0) 0)).alloc (shp (fun _ => 0) 0)) := ((Below.refl _ _).alloc (Nat.le_refl _) _).alloc (by simp) _
    have hR2 : RepN (fun k => S k ∧ k < w.heap.size) n ((w.alloc (shp (fun _ => 0) 0)).alloc (shp (fun _ => 0) 0)) t l := hR.later hb2 (fun k h1 h2 => ⟨h1, h2⟩) (Nat.le_refl _)
    obtain ⟨c, g, hsh, hcall⟩ := tally_any n (sb := w.heap.size + 1) hR2 (fun h => by have := h.2; omega) (a := fun _ => 0) (h := 0) (by have := heap_alloc_new (w.alloc (shp (fun _ => 0) 0)) (shp (fun _ => 0) 0); simpa using this) (fun j => by omega)
    refine ⟨c, g, .inr ⟨n, hsh⟩, ?_⟩
    have hbd := hsh.bounds
    have hg : g ≤ 1000000 := by omega
    have HCall : Hid (Calls Try.prog 92 #[.pointer (some ⟨t, 0, none⟩), .pointer (some ⟨w.heap.size + 1, 0, none⟩)] ((w.alloc (shp (fun _ => 0) 0)).alloc (shp (fun _ => 0) 0)) fun e w' => e = .returned (.int .i64 (g : Nat)) ∧ Wrote (w.heap.size + 1) (fun j => 0 + c j) 0 ((w.alloc (shp (fun _ => 0) 0)).alloc (shp (fun _ => 0) 0)) w') := hcall
    have HB2 : Hid (Below w.heap.size w ((w.alloc (shp (fun _ => 0) 0)).alloc (shp (fun _ => 0) 0))) := hb2
    clear hcall hsh hR2 hR hb2 hbd
    go_enter Try.func54, Try.ntmps54
    go_wp2_with (go_at_call 92; refine HCall.out.mono ?_; rintro e w3 ⟨rfl, hw⟩; obtain ⟨d0, d1, d2, d3, d4, d5⟩ := shp_cell hw.blk; have fd := shp_free hw.blk; have hr : w3.heap[w.heap.size]? = some (shp (fun _ => 0) 0) := (hw.same w.heap.size (by omega)).trans (old_new w _ _); obtain ⟨r0, r1, r2, r3, r4, r5⟩ := shp_cell hr; have fr := shp_free hr; have HW : Hid (Wrote (w.heap.size + 1) (fun j => 0 + c j) 0 ((w.alloc (shp (fun _ => 0) 0)).alloc (shp (fun _ => 0) 0)) w3) := hw; clear hw hr; simp only [Nat.zero_add] at d0 d1 d2 d3 d4 d5)
    have hb3 : Below w.heap.size w w3 := HB2.out.trans (HW.out.below (by omega))
    refine bodyPost_ret (v := shapeV c g) (by simp [results, Try.results54, go_sem, shapeV, r0, r1, r2, r3, r4, r5]) rfl ⟨rfl, ?_⟩
    exact ((((((hb3.setCell (by simp) _).setCell (by simp) _).setCell (by simp) _).setCell (by simp) _).setCell (by simp) _).setCell (by simp) _).setCell (by simp) _

end Go.Proofs.Ytcgjppacnhmjlaa
end
