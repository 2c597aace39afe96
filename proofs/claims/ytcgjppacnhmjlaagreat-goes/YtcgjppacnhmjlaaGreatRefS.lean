/- The document's own shape: the walk at a node. -/
import Derived.Test.YtcgjppacnhmjlaaGreatRefD
set_option linter.unusedVariables false
set_option linter.unusedSimpArgs false
namespace Go.Proofs.YtcgjppacnhmjlaaGreat
open Go.RowKit

set_option maxRecDepth 100000 in
set_option maxHeartbeats 400000 in
theorem rshape_none {w : World} {r fr at0 : Nat} : Calls Tryz.prog 26 #[.pointer (some ⟨r, 0, none⟩), .int .i64 fr, .int .i64 fr, .int .i64 at0] w fun e w' => e = .returned (shapeV (fun _ => 0) 0) ∧ Below w.heap.size w w' := by
  go_enter Tryz.func26, Tryz.ntmps26
  go_wp2
  exact bodyPost_ret (v := shapeV (fun _ => 0) 0) (by simp [results, Tryz.results26, go_sem, shapeV]) rfl ⟨rfl, by
    first
    | exact ((Below.refl _ _).alloc (Nat.le_refl _) _).alloc (by simp) _
    | exact ((((((((Below.refl _ _).alloc (Nat.le_refl _) _).alloc (by simp) _).setCell (by simp) _).setCell (by simp) _).setCell (by simp) _).setCell (by simp) _).setCell (by simp) _).setCell (by simp) _⟩
set_option maxRecDepth 100000 in
set_option maxHeartbeats 400000 in
theorem rshape_leaf {w : World} {r fr at0 : Nat} (hf : fr ≤ 100000) : Calls Tryz.prog 26 #[.pointer (some ⟨r, 0, none⟩), .int .i64 fr, .int .i64 (fr + 1 : Nat), .int .i64 at0] w fun e w' => e = .returned (shapeV (one 0) 1) ∧ Below w.heap.size w w' := by
  have h1 : ((fr : Int) == ((fr + 1 : Nat) : Int)) = false := by simp; omega
  go_enter Tryz.func26, Tryz.ntmps26
  go_wp2
  exact bodyPost_ret (v := shapeV (one 0) 1) (by simp [results, Tryz.results26, go_sem, shapeV, one]) rfl ⟨rfl, by
    first
    | exact ((Below.refl _ _).alloc (Nat.le_refl _) _).alloc (by simp) _
    | exact ((((((((Below.refl _ _).alloc (Nat.le_refl _) _).alloc (by simp) _).setCell (by simp) _).setCell (by simp) _).setCell (by simp) _).setCell (by simp) _).setCell (by simp) _).setCell (by simp) _⟩

structure NodeKeys (K : Nat → ByteArray) (fr last at0 pl m : Nat) (b : Nat → Nat) : Prop where
  two : fr + 1 ≤ last
  low : at0 ≤ pl
  same : ∀ t, at0 ≤ t → t < pl → ∃ (h1 : t < (K fr).size) (h2 : t < (K last).size), ((K fr)[t].toNat : Int) = ((K last)[t].toNat : Int)
  long : pl < (K last).size
  long2 : pl ≤ (K fr).size
  stop : ∀ h : pl < (K fr).size, ((K fr)[pl].toNat : Int) ≠ ((K last)[pl].toNat : Int)
  b0 : b 0 = if (K fr).size = pl then fr + 1 else fr
  bm : b m = last + 1
  bs : ∀ i, i < m → b i < b (i + 1) ∧ b (i + 1) ≤ last + 1
  inn : ∀ i t, i < m → b i ≤ t → t < b (i + 1) → ∃ (h : pl < (K t).size) (h' : pl < (K (b i)).size), ((K t)[pl].toNat : Int) = ((K (b i))[pl].toNat : Int)
  out : ∀ i, i + 1 < m → ∃ (h : pl < (K (b (i + 1))).size) (h' : pl < (K (b i)).size), ((K (b (i + 1)))[pl].toNat : Int) ≠ ((K (b i))[pl].toNat : Int)

theorem blk_on {w w' : World} {k : Nat} {ob : Obj} (hb : Below w.heap.size w w') (h : w.heap[k]? = some ob) : w'.heap[k]? = some ob := (hb.block k (idx_lt h)).trans h
/-- In the world wr the shape is being counted at block sb; nothing below it has turned but what is new. -/
structure Counting (w : World) (a : Nat → Nat) (h : Nat) (wr : World) : Prop where
  below : Below w.heap.size w wr
  res : wr.heap[w.heap.size]? = some (shp (fun _ => 0) 0)
  blk : wr.heap[w.heap.size + 1]? = some (shp a h)
theorem Counting.drewN {w : World} {a : Nat → Nat} {h : Nat} {wr : World} (x : Counting w a h wr) (n : Nat) : Counting w a h (wr.drewN n) := ⟨⟨x.below.os, x.below.tape, x.below.output, x.below.size, x.below.block⟩, x.res, x.blk⟩
theorem Counting.on {w : World} {a : Nat → Nat} {h : Nat} {wr w' : World} (x : Counting w a h wr) (hb : Below wr.heap.size wr w') : Counting w a h w' :=
  ⟨x.below.trans (hb.mono x.below.size), blk_on hb x.res, blk_on hb x.blk⟩
theorem Counting.start (w : World) : Counting w (fun _ => 0) 1 ((w.alloc (shp (fun _ => 0) 0)).alloc (shp (fun _ => 0) 1)) :=
  ⟨((Below.refl _ _).alloc (Nat.le_refl _) _).alloc (by simp) _, old_new w _ _, by have := heap_alloc_new (w.alloc (shp (fun _ => 0) 0)) (shp (fun _ => 0) 1); simpa using this⟩

theorem Counting.lt {w : World} {a : Nat → Nat} {h : Nat} {wr : World} (x : Counting w a h wr) : w.heap.size + 1 < wr.heap.size := idx_lt x.blk
/-- A branch's counts are added. -/
theorem Counting.add {w : World} {a c : Nat → Nat} {h : Nat} {wr : World} {ob : Obj} (x : Counting w a h wr) :
    Counting w (fun j => a j + c j) h ((((((wr.setCell ⟨w.heap.size + 1, 0, none⟩ (.int .i64 ((a 0 : Int) + (c 0 : Int)))).setCell ⟨w.heap.size + 1, 1, none⟩ (.int .i64 ((a 1 : Int) + (c 1 : Int)))).setCell ⟨w.heap.size + 1, 2, none⟩ (.int .i64 ((a 2 : Int) + (c 2 : Int)))).setCell ⟨w.heap.size + 1, 3, none⟩ (.int .i64 ((a 3 : Int) + (c 3 : Int)))).setCell ⟨w.heap.size + 1, 4, none⟩ (.int .i64 ((a 4 : Int) + (c 4 : Int)))).alloc ob) := by
  refine Counting.on ⟨((((x.below.setCell (by simp) _).setCell (by simp) _).setCell (by simp) _).setCell (by simp) _).setCell (by simp) _, ?_, ?_⟩ (below_alloc _ ob)
  · rw [Below.heap_setCell _ _ _ _ (by simp), Below.heap_setCell _ _ _ _ (by simp), Below.heap_setCell _ _ _ _ (by simp), Below.heap_setCell _ _ _ _ (by simp), Below.heap_setCell _ _ _ _ (by simp)]
    exact x.res
  · have hb := x.blk
    simp only [World.setCell, Array.getElem?_modify, if_true, hb, Option.map_some]
    simp [shp]

set_option maxRecDepth 100000 in
set_option maxHeartbeats 1500000 in
theorem rshape_node {w : World} {r g N cap fr last at0 pl m : Nat} {K : Nat → ByteArray} {b : Nat → Nat} {cl : List (Nat → Nat)} {hl : List Nat}
    (hr : w.cell? ⟨r, 0, none⟩ = some (.slice (some ⟨g, 0, none⟩) N cap)) (hK : ∀ t, t < N → w.cell? ⟨g, t * 2, none⟩ = some (.string (K t))) (hto : last + 1 ≤ N) (hN : N ≤ 3000) (hsz : ∀ t, (K t).size ≤ 64)
    (hk : NodeKeys K fr last at0 pl m b) (hm : m ≤ 256) (hcl : cl.length = m) (hhl : hl.length = m) (hmx : ∀ x ∈ hl, x ≤ 100000000) (ha : ∀ i j, upTo (fun _ => 0) cl i j ≤ 1000000000) (hcx : ∀ c ∈ cl, ∀ j, c j ≤ 1000000000)
    (hC : ∀ i c h, i < m → cl[i]? = some c → hl[i]? = some h → ∀ w1, Below w.heap.size w w1 → Calls Tryz.prog 26 #[.pointer (some ⟨r, 0, none⟩), .int .i64 (b i), .int .i64 (b (i + 1)), .int .i64 (pl + 1 : Nat)] w1 fun e w' => e = .returned (shapeV c h) ∧ Below w1.heap.size w1 w') :
    Calls Tryz.prog 26 #[.pointer (some ⟨r, 0, none⟩), .int .i64 fr, .int .i64 (last + 1 : Nat), .int .i64 at0] w fun e w' => e = .returned (shapeV (fun j => sumAt cl j + one (kindIx m) j) (maxOf hl + 1)) ∧ Below w.heap.size w w' := by
  have h2 := hk.two
  have hlow := hk.low
  have hlz := hk.long
  have hlz2 := hk.long2
  have hsf := hsz fr
  have hsl := hsz last
  have t1 : ((fr : Int) == ((last + 1 : Nat) : Int)) = false := by simp; omega
  have t2 : ((fr : Int) == ((last : Nat) : Int) + 1) = false := by simp; omega
  have t3 : (((last + 1 : Nat) : Int) == (fr : Int) + 1) = false := by simp; omega
  have t4 : ((last : Int) + 1 == (fr : Int) + 1) = false := by simp; omega
  have HK : Hid (∀ t, t < N → w.cell? ⟨g, t * 2, none⟩ = some (.string (K t))) := hK
  have HKN : Hid (NodeKeys K fr last at0 pl m b) := hk
  have HC : Hid (∀ i c h, i < m → cl[i]? = some c → hl[i]? = some h → ∀ w1, Below w.heap.size w w1 → Calls Tryz.prog 26 #[.pointer (some ⟨r, 0, none⟩), .int .i64 (b i), .int .i64 (b (i + 1)), .int .i64 (pl + 1 : Nat)] w1 fun e w' => e = .returned (shapeV c h) ∧ Below w1.heap.size w1 w') := hC
  have HMX : Hid (∀ x ∈ hl, x ≤ 100000000) := hmx
  have HA : Hid (∀ i j, upTo (fun _ => 0) cl i j ≤ 1000000000) := ha
  have HCX : Hid (∀ c ∈ cl, ∀ j, c j ≤ 1000000000) := hcx
  have HSZ : Hid (∀ t, (K t).size ≤ 64) := hsz
  have HST : Hid (Counting w (fun _ => 0) 1 ((w.alloc (shp (fun _ => 0) 0)).alloc (shp (fun _ => 0) 1))) := Counting.start w
  have hb2 : ∀ o p, Below w.heap.size w ((w.alloc o).alloc p) := fun o p => ((Below.refl _ _).alloc (Nat.le_refl _) _).alloc (by simp) _
  have hr1 := fun o p => cell_later (hb2 o p) hr
  have hf1 := fun o p => cell_later (hb2 o p) (hK fr (by omega))
  have hl1 := fun o p => cell_later (hb2 o p) (hK last (by omega))
  clear hb2
  have HR : Hid (w.cell? ⟨r, 0, none⟩ = some (.slice (some ⟨g, 0, none⟩) N cap)) := hr
  clear hK hk hC hmx ha hcx hsz hr
  go_enter Tryz.func26, Tryz.ntmps26
  go_wp2
  go_loopg [3] pl (fun gk s3 wr => ∃ t : Nat, s3 = .int .i64 t ∧ at0 ≤ t ∧ t ≤ pl ∧ pl ≤ gk + t ∧ Hid (Counting w (fun _ => 0) 1 wr))
  case atStart => exact ⟨at0, rfl, Nat.le_refl _, hlow, by omega, HST.out⟩
  case round =>
    clear HST hr1 hf1 hl1
    obtain ⟨t, rfl, hta, htp, hg, HW⟩ := hrel
    by_cases hlt : t < pl
    · obtain ⟨h1, h2', h3⟩ := HKN.out.same t hta hlt
      go_wp2
      go_quiet (fail)
      go_wp2
      go_roundg (gk - 1)
      case measure => omega
      case rel => exact ⟨t + 1, by go_num, by omega, by omega, by omega, HW.out.drewN _⟩
    · have et : t = pl := by omega
      subst et
      by_cases hown : (K fr).size = t
      · have hb0 : b 0 = fr + 1 := by rw [HKN.out.b0, if_pos hown]
        go_wp2
        go_quiet (fail)
        go_wp2
        have HT : Hid (Counting w (fun _ => 0) 1 (wr.drewN nq)) := HW.out.drewN _
        clear HW
        go_loopg [1, 12, 13] m (fun gk s1 s12 s13 wr => ∃ i : Nat, i ≤ m ∧ gk + i = m ∧ s1 = .int .i64 (b i) ∧ s12 = .int .i64 i ∧ s13 = .int .i64 (maxOf (hl.take i) : Nat) ∧ Hid (Counting w (upTo (fun _ => 0) cl i) 1 wr))
        case atStart => exact ⟨0, Nat.zero_le _, by omega, by (first | (rw [hb0]; done) | (rw [hb0]; rfl)), rfl, rfl, by rw [upTo_zero]; exact HT.out⟩
        case round =>
          clear HT
          obtain ⟨i, him, hgi, rfl, rfl, rfl, HW⟩ := hrel
          have hmax : maxOf (hl.take i) ≤ 100000000 := maxOf_le fun x hx => HMX.out x (List.mem_of_mem_take hx)
          by_cases hi : i < m
          · obtain ⟨hbs1, hbs2⟩ := HKN.out.bs i hi
            go_wp2
            go_loopg [14] (b (i + 1)) (fun gk2 s14 wr => ∃ e : Nat, s14 = .int .i64 e ∧ b i < e ∧ e ≤ b (i + 1) ∧ b (i + 1) ≤ gk2 + e ∧ Hid (Counting w (upTo (fun _ => 0) cl i) 1 wr))
            case atStart => exact ⟨b i + 1, by go_num, by omega, by omega, by omega, HW.out⟩
            case round =>
              clear HW
              obtain ⟨e, rfl, he1, he2, he3, HW⟩ := hrel
              have hcr := cell_later HW.out.below HR.out
              have hcb := cell_later HW.out.below (HK.out (b i) (by omega))
              by_cases hel : e < b (i + 1)
              · obtain ⟨q1, q2, q3⟩ := HKN.out.inn i e hi (by omega) hel
                have hce := cell_later HW.out.below (HK.out e (by omega))
                have hs1 := HSZ.out e
                have hs2 := HSZ.out (b i)
                have i1 : (e : Int) < (last : Int) + 1 := by omega
                have i2 : (e : Int) < (N : Int) := by omega
                have i3 : ((b i : Nat) : Int) < (N : Int) := by omega
                have i4 : (0 : Int) ≤ (e : Int) := by omega
                have i5 : (0 : Int) ≤ ((b i : Nat) : Int) := by omega
                have i6 : (0 : Int) ≤ (t : Int) := by omega
                have i7 : (t : Int) < ((K e).size : Int) := by omega
                have i8 : (t : Int) < ((K (b i)).size : Int) := by omega
                go_wp2
                go_quiet (fail)
                go_wp2
                go_roundg (gk - 1)
                case measure => omega
                case rel => exact ⟨e + 1, by go_num, by omega, by omega, by omega, HW.out.drewN _⟩
              · have ee : e = b (i + 1) := by omega
                subst ee
                obtain ⟨ci, hci⟩ : ∃ c, cl[i]? = some c := ⟨cl[i]'(by omega), List.getElem?_eq_getElem _⟩
                obtain ⟨hi', hhi⟩ : ∃ c, hl[i]? = some c := ⟨hl[i]'(by omega), List.getElem?_eq_getElem _⟩
                have hm1 : hi' ≤ 100000000 := HMX.out hi' (List.mem_of_getElem? hhi)
                have hc0 := HCX.out ci (List.mem_of_getElem? hci) 0
                have hc1 := HCX.out ci (List.mem_of_getElem? hci) 1
                have hc2 := HCX.out ci (List.mem_of_getElem? hci) 2
                have hc3 := HCX.out ci (List.mem_of_getElem? hci) 3
                have hc4 := HCX.out ci (List.mem_of_getElem? hci) 4
                have ha0 := HA.out i 0
                have ha1 := HA.out i 1
                have ha2 := HA.out i 2
                have ha3 := HA.out i 3
                have ha4 := HA.out i 4
                have HCi : Hid (∀ w1, Counting w (upTo (fun _ => 0) cl i) 1 w1 → Calls Tryz.prog 26 #[.pointer (some ⟨r, 0, none⟩), .int .i64 (b i), .int .i64 (b (i + 1)), .int .i64 ((t : Int) + 1)] w1 fun e w' => e = .returned (shapeV ci hi') ∧ Counting w (upTo (fun _ => 0) cl i) 1 w') := fun w1 hw1 => (HC.out i ci hi' hi hci hhi w1 hw1.below).mono fun e w' he => ⟨he.1, hw1.on he.2⟩
                have HS : Hid (maxOf (hl.take (i + 1)) = max (maxOf (hl.take i)) hi') := maxOf_take_succ hl i hi' hhi
                have HU : Hid (upTo (fun _ => 0) cl (i + 1) = fun x => upTo (fun _ => 0) cl i x + ci x) := upTo_succ _ cl i ci hci
                clear hci hhi
                by_cases hlast : i + 1 < m
                · obtain ⟨q1, q2, q3⟩ := HKN.out.out i hlast
                  obtain ⟨q4, q5⟩ := HKN.out.bs (i + 1) hlast
                  have hce := cell_later HW.out.below (HK.out (b (i + 1)) (by omega))
                  have hs1 := HSZ.out (b (i + 1))
                  have hs2 := HSZ.out (b i)
                  have i1 : ((b (i + 1) : Nat) : Int) < (last : Int) + 1 := by omega
                  have i2 : ((b (i + 1) : Nat) : Int) < (N : Int) := by omega
                  have i3 : ((b i : Nat) : Int) < (N : Int) := by omega
                  have i4 : (0 : Int) ≤ ((b (i + 1) : Nat) : Int) := by omega
                  have i5 : (0 : Int) ≤ ((b i : Nat) : Int) := by omega
                  have i6 : (0 : Int) ≤ (t : Int) := by omega
                  have i7 : (t : Int) < ((K (b (i + 1))).size : Int) := by omega
                  have i8 : (t : Int) < ((K (b i)).size : Int) := by omega
                  go_wp2
                  go_quiet (fail)
                  clear hce hcr hcb
                  generalize upTo (fun _ => 0) cl i = A0 at *
                  generalize maxOf (hl.take i) = M0 at *
                  go_wp2_with (go_at_call 26; refine (HCi.out _ (HW.out.drewN _)).mono ?_; rintro e' w' ⟨rfl, hw1⟩; obtain ⟨d0, d1, d2, d3, d4, d5⟩ := shp_cell hw1.blk; have fd := shp_free hw1.blk; have e0 := fun ob => cell_later (below_alloc w' ob) d0; have e1 := fun ob => cell_later (below_alloc w' ob) d1; have e2 := fun ob => cell_later (below_alloc w' ob) d2; have e3 := fun ob => cell_later (below_alloc w' ob) d3; have e4 := fun ob => cell_later (below_alloc w' ob) d4; have hlt' := hw1.lt; have fe : ∀ ob o, (w'.alloc ob).frozen? ⟨w.heap.size + 1, o, none⟩ = false := fun ob o => shp_free (blk_on (below_alloc w' ob) hw1.blk) o; have HW1 : Hid (Counting w A0 1 w') := hw1; clear hw1; unfold shapeV)
                  all_goals
                    go_roundg (m - (i + 1))
                    case measure => omega
                    case rel => exact ⟨i + 1, by omega, by omega, rfl, by go_num, by rw [HS.out]; exact congrArg _ (by rw [Nat.max_def]; split <;> omega), by rw [HU.out]; exact HW1.out.add⟩
                · have hbl : b (i + 1) = last + 1 := by rw [← HKN.out.bm]; congr 1; omega
                  have i1 : ¬ ((b (i + 1) : Nat) : Int) < (last : Int) + 1 := by omega
                  have i1' : decide (((b (i + 1) : Nat) : Int) < (last : Int) + 1) = false := by simp; omega
                  clear hbl
                  go_wp2
                  go_quiet (fail)
                  clear i1'
                  clear hcr hcb
                  generalize upTo (fun _ => 0) cl i = A0 at *
                  generalize maxOf (hl.take i) = M0 at *
                  go_wp2_with (go_at_call 26; refine (HCi.out _ (HW.out.drewN _)).mono ?_; rintro e' w' ⟨rfl, hw1⟩; obtain ⟨d0, d1, d2, d3, d4, d5⟩ := shp_cell hw1.blk; have fd := shp_free hw1.blk; have e0 := fun ob => cell_later (below_alloc w' ob) d0; have e1 := fun ob => cell_later (below_alloc w' ob) d1; have e2 := fun ob => cell_later (below_alloc w' ob) d2; have e3 := fun ob => cell_later (below_alloc w' ob) d3; have e4 := fun ob => cell_later (below_alloc w' ob) d4; have hlt' := hw1.lt; have fe : ∀ ob o, (w'.alloc ob).frozen? ⟨w.heap.size + 1, o, none⟩ = false := fun ob o => shp_free (blk_on (below_alloc w' ob) hw1.blk) o; have HW1 : Hid (Counting w A0 1 w') := hw1; clear hw1; unfold shapeV)
                  all_goals
                    go_roundg (m - (i + 1))
                    case measure => omega
                    case rel => exact ⟨i + 1, by omega, by omega, rfl, by go_num, by rw [HS.out]; exact congrArg _ (by rw [Nat.max_def]; split <;> omega), by rw [HU.out]; exact HW1.out.add⟩
          · have ei : i = m := by omega
            subst ei
            have hbl : ¬ ((b i : Nat) : Int) < (last : Int) + 1 := by have := HKN.out.bm; omega
            have HE : Hid (maxOf (hl.take i) = maxOf hl) := by show _ = _; rw [List.take_of_length_le (by omega)]
            have HU : Hid (∀ j, upTo (fun _ => 0) cl i j = sumAt cl j) := fun j => by show 0 + sumAt (cl.take i) j = _; rw [List.take_of_length_le (by omega), Nat.zero_add]
            have ha1 := HA.out i 1
            have ha2 := HA.out i 2
            have ha3 := HA.out i 3
            have ha4 := HA.out i 4
            obtain ⟨d0, d1, d2, d3, d4, d5⟩ := shp_cell HW.out.blk
            have fd := shp_free HW.out.blk
            obtain ⟨r0, r1, r2, r3, r4, r5⟩ := shp_cell HW.out.res
            have fr' := shp_free HW.out.res
            have hlt' := HW.out.lt
            generalize upTo (fun _ => 0) cl i = A0 at *
            generalize maxOf (hl.take i) = M0 at *
            by_cases k1 : i ≤ 4
            · have hkx : kindIx i = 1 := by simp [kindIx, k1]
              have HV : Hid (shapeV (fun j => sumAt cl j + one 1 j) (maxOf hl + 1) = .agg #[.int .i64 ((A0 0 : Int)), .int .i64 ((A0 1 : Int) + 1), .int .i64 ((A0 2 : Int)), .int .i64 ((A0 3 : Int)), .int .i64 ((A0 4 : Int)), .int .i64 ((M0 : Int) + 1)]) := by
                have u0 := HU.out 0; have u1 := HU.out 1; have u2 := HU.out 2; have u3 := HU.out 3; have u4 := HU.out 4; have ue := HE.out
                show _ = _
                simp [shapeV, one, ← u0, ← u1, ← u2, ← u3, ← u4, ← ue]
              go_wp2
              try rw [hkx]
              rw [HV.out]
              exact bodyPost_ret (v := .agg #[.int .i64 ((A0 0 : Int)), .int .i64 ((A0 1 : Int) + 1), .int .i64 ((A0 2 : Int)), .int .i64 ((A0 3 : Int)), .int .i64 ((A0 4 : Int)), .int .i64 ((M0 : Int) + 1)]) (by simp [results, Tryz.results26, go_sem, r0, r1, r2, r3, r4, r5]) rfl ⟨rfl, (((((((HW.out.below.setCell (by simp) _).setCell (by simp) _).setCell (by simp) _).setCell (by simp) _).setCell (by simp) _).setCell (by simp) _).setCell (by simp) _).setCell (by simp) _⟩
            · by_cases k2 : i ≤ 16
              · have hkx : kindIx i = 2 := by simp [kindIx, k1, k2]
                have HV : Hid (shapeV (fun j => sumAt cl j + one 2 j) (maxOf hl + 1) = .agg #[.int .i64 ((A0 0 : Int)), .int .i64 ((A0 1 : Int)), .int .i64 ((A0 2 : Int) + 1), .int .i64 ((A0 3 : Int)), .int .i64 ((A0 4 : Int)), .int .i64 ((M0 : Int) + 1)]) := by
                  have u0 := HU.out 0; have u1 := HU.out 1; have u2 := HU.out 2; have u3 := HU.out 3; have u4 := HU.out 4; have ue := HE.out
                  show _ = _
                  simp [shapeV, one, ← u0, ← u1, ← u2, ← u3, ← u4, ← ue]
                go_wp2
                try rw [hkx]
                rw [HV.out]
                exact bodyPost_ret (v := .agg #[.int .i64 ((A0 0 : Int)), .int .i64 ((A0 1 : Int)), .int .i64 ((A0 2 : Int) + 1), .int .i64 ((A0 3 : Int)), .int .i64 ((A0 4 : Int)), .int .i64 ((M0 : Int) + 1)]) (by simp [results, Tryz.results26, go_sem, r0, r1, r2, r3, r4, r5]) rfl ⟨rfl, (((((((HW.out.below.setCell (by simp) _).setCell (by simp) _).setCell (by simp) _).setCell (by simp) _).setCell (by simp) _).setCell (by simp) _).setCell (by simp) _).setCell (by simp) _⟩
              · by_cases k3 : i ≤ 48
                · have hkx : kindIx i = 3 := by simp [kindIx, k1, k2, k3]
                  have HV : Hid (shapeV (fun j => sumAt cl j + one 3 j) (maxOf hl + 1) = .agg #[.int .i64 ((A0 0 : Int)), .int .i64 ((A0 1 : Int)), .int .i64 ((A0 2 : Int)), .int .i64 ((A0 3 : Int) + 1), .int .i64 ((A0 4 : Int)), .int .i64 ((M0 : Int) + 1)]) := by
                    have u0 := HU.out 0; have u1 := HU.out 1; have u2 := HU.out 2; have u3 := HU.out 3; have u4 := HU.out 4; have ue := HE.out
                    show _ = _
                    simp [shapeV, one, ← u0, ← u1, ← u2, ← u3, ← u4, ← ue]
                  go_wp2
                  try rw [hkx]
                  rw [HV.out]
                  exact bodyPost_ret (v := .agg #[.int .i64 ((A0 0 : Int)), .int .i64 ((A0 1 : Int)), .int .i64 ((A0 2 : Int)), .int .i64 ((A0 3 : Int) + 1), .int .i64 ((A0 4 : Int)), .int .i64 ((M0 : Int) + 1)]) (by simp [results, Tryz.results26, go_sem, r0, r1, r2, r3, r4, r5]) rfl ⟨rfl, (((((((HW.out.below.setCell (by simp) _).setCell (by simp) _).setCell (by simp) _).setCell (by simp) _).setCell (by simp) _).setCell (by simp) _).setCell (by simp) _).setCell (by simp) _⟩
                · have hkx : kindIx i = 4 := by simp [kindIx, k1, k2, k3]
                  have HV : Hid (shapeV (fun j => sumAt cl j + one 4 j) (maxOf hl + 1) = .agg #[.int .i64 ((A0 0 : Int)), .int .i64 ((A0 1 : Int)), .int .i64 ((A0 2 : Int)), .int .i64 ((A0 3 : Int)), .int .i64 ((A0 4 : Int) + 1), .int .i64 ((M0 : Int) + 1)]) := by
                    have u0 := HU.out 0; have u1 := HU.out 1; have u2 := HU.out 2; have u3 := HU.out 3; have u4 := HU.out 4; have ue := HE.out
                    show _ = _
                    simp [shapeV, one, ← u0, ← u1, ← u2, ← u3, ← u4, ← ue]
                  go_wp2
                  try rw [hkx]
                  rw [HV.out]
                  exact bodyPost_ret (v := .agg #[.int .i64 ((A0 0 : Int)), .int .i64 ((A0 1 : Int)), .int .i64 ((A0 2 : Int)), .int .i64 ((A0 3 : Int)), .int .i64 ((A0 4 : Int) + 1), .int .i64 ((M0 : Int) + 1)]) (by simp [results, Tryz.results26, go_sem, r0, r1, r2, r3, r4, r5]) rfl ⟨rfl, (((((((HW.out.below.setCell (by simp) _).setCell (by simp) _).setCell (by simp) _).setCell (by simp) _).setCell (by simp) _).setCell (by simp) _).setCell (by simp) _).setCell (by simp) _⟩
      · have hb0 : b 0 = fr := by rw [HKN.out.b0, if_neg hown]
        have hgt : t < (K fr).size := by omega
        have hne := HKN.out.stop hgt
        go_wp2
        go_quiet (fail)
        go_wp2
        rename_i hx1 hx2 kk aa
        clear hx1 hx2 hne hown
        have HT : Hid (Counting w (fun _ => 0) 1 (wr.drewN nq)) := HW.out.drewN _
        clear HW
        go_loopg [1, 12, 13] m (fun gk s1 s12 s13 wr => ∃ i : Nat, i ≤ m ∧ gk + i = m ∧ s1 = .int .i64 (b i) ∧ s12 = .int .i64 i ∧ s13 = .int .i64 (maxOf (hl.take i) : Nat) ∧ Hid (Counting w (upTo (fun _ => 0) cl i) 1 wr))
        case atStart => exact ⟨0, Nat.zero_le _, by omega, by (first | (rw [hb0]; done) | (rw [hb0]; rfl)), rfl, rfl, by rw [upTo_zero]; exact HT.out⟩
        case round =>
          clear HT
          obtain ⟨i, him, hgi, rfl, rfl, rfl, HW⟩ := hrel
          have hmax : maxOf (hl.take i) ≤ 100000000 := maxOf_le fun x hx => HMX.out x (List.mem_of_mem_take hx)
          by_cases hi : i < m
          · obtain ⟨hbs1, hbs2⟩ := HKN.out.bs i hi
            go_wp2
            go_loopg [14] (b (i + 1)) (fun gk2 s14 wr => ∃ e : Nat, s14 = .int .i64 e ∧ b i < e ∧ e ≤ b (i + 1) ∧ b (i + 1) ≤ gk2 + e ∧ Hid (Counting w (upTo (fun _ => 0) cl i) 1 wr))
            case atStart => exact ⟨b i + 1, by go_num, by omega, by omega, by omega, HW.out⟩
            case round =>
              clear HW
              obtain ⟨e, rfl, he1, he2, he3, HW⟩ := hrel
              have hcr := cell_later HW.out.below HR.out
              have hcb := cell_later HW.out.below (HK.out (b i) (by omega))
              by_cases hel : e < b (i + 1)
              · obtain ⟨q1, q2, q3⟩ := HKN.out.inn i e hi (by omega) hel
                have hce := cell_later HW.out.below (HK.out e (by omega))
                have hs1 := HSZ.out e
                have hs2 := HSZ.out (b i)
                have i1 : (e : Int) < (last : Int) + 1 := by omega
                have i2 : (e : Int) < (N : Int) := by omega
                have i3 : ((b i : Nat) : Int) < (N : Int) := by omega
                have i4 : (0 : Int) ≤ (e : Int) := by omega
                have i5 : (0 : Int) ≤ ((b i : Nat) : Int) := by omega
                have i6 : (0 : Int) ≤ (t : Int) := by omega
                have i7 : (t : Int) < ((K e).size : Int) := by omega
                have i8 : (t : Int) < ((K (b i)).size : Int) := by omega
                go_wp2
                go_quiet (fail)
                go_wp2
                go_roundg (gk - 1)
                case measure => omega
                case rel => exact ⟨e + 1, by go_num, by omega, by omega, by omega, HW.out.drewN _⟩
              · have ee : e = b (i + 1) := by omega
                subst ee
                obtain ⟨ci, hci⟩ : ∃ c, cl[i]? = some c := ⟨cl[i]'(by omega), List.getElem?_eq_getElem _⟩
                obtain ⟨hi', hhi⟩ : ∃ c, hl[i]? = some c := ⟨hl[i]'(by omega), List.getElem?_eq_getElem _⟩
                have hm1 : hi' ≤ 100000000 := HMX.out hi' (List.mem_of_getElem? hhi)
                have hc0 := HCX.out ci (List.mem_of_getElem? hci) 0
                have hc1 := HCX.out ci (List.mem_of_getElem? hci) 1
                have hc2 := HCX.out ci (List.mem_of_getElem? hci) 2
                have hc3 := HCX.out ci (List.mem_of_getElem? hci) 3
                have hc4 := HCX.out ci (List.mem_of_getElem? hci) 4
                have ha0 := HA.out i 0
                have ha1 := HA.out i 1
                have ha2 := HA.out i 2
                have ha3 := HA.out i 3
                have ha4 := HA.out i 4
                have HCi : Hid (∀ w1, Counting w (upTo (fun _ => 0) cl i) 1 w1 → Calls Tryz.prog 26 #[.pointer (some ⟨r, 0, none⟩), .int .i64 (b i), .int .i64 (b (i + 1)), .int .i64 ((t : Int) + 1)] w1 fun e w' => e = .returned (shapeV ci hi') ∧ Counting w (upTo (fun _ => 0) cl i) 1 w') := fun w1 hw1 => (HC.out i ci hi' hi hci hhi w1 hw1.below).mono fun e w' he => ⟨he.1, hw1.on he.2⟩
                have HS : Hid (maxOf (hl.take (i + 1)) = max (maxOf (hl.take i)) hi') := maxOf_take_succ hl i hi' hhi
                have HU : Hid (upTo (fun _ => 0) cl (i + 1) = fun x => upTo (fun _ => 0) cl i x + ci x) := upTo_succ _ cl i ci hci
                clear hci hhi
                by_cases hlast : i + 1 < m
                · obtain ⟨q1, q2, q3⟩ := HKN.out.out i hlast
                  obtain ⟨q4, q5⟩ := HKN.out.bs (i + 1) hlast
                  have hce := cell_later HW.out.below (HK.out (b (i + 1)) (by omega))
                  have hs1 := HSZ.out (b (i + 1))
                  have hs2 := HSZ.out (b i)
                  have i1 : ((b (i + 1) : Nat) : Int) < (last : Int) + 1 := by omega
                  have i2 : ((b (i + 1) : Nat) : Int) < (N : Int) := by omega
                  have i3 : ((b i : Nat) : Int) < (N : Int) := by omega
                  have i4 : (0 : Int) ≤ ((b (i + 1) : Nat) : Int) := by omega
                  have i5 : (0 : Int) ≤ ((b i : Nat) : Int) := by omega
                  have i6 : (0 : Int) ≤ (t : Int) := by omega
                  have i7 : (t : Int) < ((K (b (i + 1))).size : Int) := by omega
                  have i8 : (t : Int) < ((K (b i)).size : Int) := by omega
                  go_wp2
                  go_quiet (fail)
                  clear hce hcr hcb
                  generalize upTo (fun _ => 0) cl i = A0 at *
                  generalize maxOf (hl.take i) = M0 at *
                  go_wp2_with (go_at_call 26; refine (HCi.out _ (HW.out.drewN _)).mono ?_; rintro e' w' ⟨rfl, hw1⟩; obtain ⟨d0, d1, d2, d3, d4, d5⟩ := shp_cell hw1.blk; have fd := shp_free hw1.blk; have e0 := fun ob => cell_later (below_alloc w' ob) d0; have e1 := fun ob => cell_later (below_alloc w' ob) d1; have e2 := fun ob => cell_later (below_alloc w' ob) d2; have e3 := fun ob => cell_later (below_alloc w' ob) d3; have e4 := fun ob => cell_later (below_alloc w' ob) d4; have hlt' := hw1.lt; have fe : ∀ ob o, (w'.alloc ob).frozen? ⟨w.heap.size + 1, o, none⟩ = false := fun ob o => shp_free (blk_on (below_alloc w' ob) hw1.blk) o; have HW1 : Hid (Counting w A0 1 w') := hw1; clear hw1; unfold shapeV)
                  all_goals
                    go_roundg (m - (i + 1))
                    case measure => omega
                    case rel => exact ⟨i + 1, by omega, by omega, rfl, by go_num, by rw [HS.out]; exact congrArg _ (by rw [Nat.max_def]; split <;> omega), by rw [HU.out]; exact HW1.out.add⟩
                · have hbl : b (i + 1) = last + 1 := by rw [← HKN.out.bm]; congr 1; omega
                  have i1 : ¬ ((b (i + 1) : Nat) : Int) < (last : Int) + 1 := by omega
                  have i1' : decide (((b (i + 1) : Nat) : Int) < (last : Int) + 1) = false := by simp; omega
                  clear hbl
                  go_wp2
                  go_quiet (fail)
                  clear i1'
                  clear hcr hcb
                  generalize upTo (fun _ => 0) cl i = A0 at *
                  generalize maxOf (hl.take i) = M0 at *
                  go_wp2_with (go_at_call 26; refine (HCi.out _ (HW.out.drewN _)).mono ?_; rintro e' w' ⟨rfl, hw1⟩; obtain ⟨d0, d1, d2, d3, d4, d5⟩ := shp_cell hw1.blk; have fd := shp_free hw1.blk; have e0 := fun ob => cell_later (below_alloc w' ob) d0; have e1 := fun ob => cell_later (below_alloc w' ob) d1; have e2 := fun ob => cell_later (below_alloc w' ob) d2; have e3 := fun ob => cell_later (below_alloc w' ob) d3; have e4 := fun ob => cell_later (below_alloc w' ob) d4; have hlt' := hw1.lt; have fe : ∀ ob o, (w'.alloc ob).frozen? ⟨w.heap.size + 1, o, none⟩ = false := fun ob o => shp_free (blk_on (below_alloc w' ob) hw1.blk) o; have HW1 : Hid (Counting w A0 1 w') := hw1; clear hw1; unfold shapeV)
                  all_goals
                    go_roundg (m - (i + 1))
                    case measure => omega
                    case rel => exact ⟨i + 1, by omega, by omega, rfl, by go_num, by rw [HS.out]; exact congrArg _ (by rw [Nat.max_def]; split <;> omega), by rw [HU.out]; exact HW1.out.add⟩
          · have ei : i = m := by omega
            subst ei
            have hbl : ¬ ((b i : Nat) : Int) < (last : Int) + 1 := by have := HKN.out.bm; omega
            have HE : Hid (maxOf (hl.take i) = maxOf hl) := by show _ = _; rw [List.take_of_length_le (by omega)]
            have HU : Hid (∀ j, upTo (fun _ => 0) cl i j = sumAt cl j) := fun j => by show 0 + sumAt (cl.take i) j = _; rw [List.take_of_length_le (by omega), Nat.zero_add]
            have ha1 := HA.out i 1
            have ha2 := HA.out i 2
            have ha3 := HA.out i 3
            have ha4 := HA.out i 4
            obtain ⟨d0, d1, d2, d3, d4, d5⟩ := shp_cell HW.out.blk
            have fd := shp_free HW.out.blk
            obtain ⟨r0, r1, r2, r3, r4, r5⟩ := shp_cell HW.out.res
            have fr' := shp_free HW.out.res
            have hlt' := HW.out.lt
            generalize upTo (fun _ => 0) cl i = A0 at *
            generalize maxOf (hl.take i) = M0 at *
            by_cases k1 : i ≤ 4
            · have hkx : kindIx i = 1 := by simp [kindIx, k1]
              have HV : Hid (shapeV (fun j => sumAt cl j + one 1 j) (maxOf hl + 1) = .agg #[.int .i64 ((A0 0 : Int)), .int .i64 ((A0 1 : Int) + 1), .int .i64 ((A0 2 : Int)), .int .i64 ((A0 3 : Int)), .int .i64 ((A0 4 : Int)), .int .i64 ((M0 : Int) + 1)]) := by
                have u0 := HU.out 0; have u1 := HU.out 1; have u2 := HU.out 2; have u3 := HU.out 3; have u4 := HU.out 4; have ue := HE.out
                show _ = _
                simp [shapeV, one, ← u0, ← u1, ← u2, ← u3, ← u4, ← ue]
              go_wp2
              try rw [hkx]
              rw [HV.out]
              exact bodyPost_ret (v := .agg #[.int .i64 ((A0 0 : Int)), .int .i64 ((A0 1 : Int) + 1), .int .i64 ((A0 2 : Int)), .int .i64 ((A0 3 : Int)), .int .i64 ((A0 4 : Int)), .int .i64 ((M0 : Int) + 1)]) (by simp [results, Tryz.results26, go_sem, r0, r1, r2, r3, r4, r5]) rfl ⟨rfl, (((((((HW.out.below.setCell (by simp) _).setCell (by simp) _).setCell (by simp) _).setCell (by simp) _).setCell (by simp) _).setCell (by simp) _).setCell (by simp) _).setCell (by simp) _⟩
            · by_cases k2 : i ≤ 16
              · have hkx : kindIx i = 2 := by simp [kindIx, k1, k2]
                have HV : Hid (shapeV (fun j => sumAt cl j + one 2 j) (maxOf hl + 1) = .agg #[.int .i64 ((A0 0 : Int)), .int .i64 ((A0 1 : Int)), .int .i64 ((A0 2 : Int) + 1), .int .i64 ((A0 3 : Int)), .int .i64 ((A0 4 : Int)), .int .i64 ((M0 : Int) + 1)]) := by
                  have u0 := HU.out 0; have u1 := HU.out 1; have u2 := HU.out 2; have u3 := HU.out 3; have u4 := HU.out 4; have ue := HE.out
                  show _ = _
                  simp [shapeV, one, ← u0, ← u1, ← u2, ← u3, ← u4, ← ue]
                go_wp2
                try rw [hkx]
                rw [HV.out]
                exact bodyPost_ret (v := .agg #[.int .i64 ((A0 0 : Int)), .int .i64 ((A0 1 : Int)), .int .i64 ((A0 2 : Int) + 1), .int .i64 ((A0 3 : Int)), .int .i64 ((A0 4 : Int)), .int .i64 ((M0 : Int) + 1)]) (by simp [results, Tryz.results26, go_sem, r0, r1, r2, r3, r4, r5]) rfl ⟨rfl, (((((((HW.out.below.setCell (by simp) _).setCell (by simp) _).setCell (by simp) _).setCell (by simp) _).setCell (by simp) _).setCell (by simp) _).setCell (by simp) _).setCell (by simp) _⟩
              · by_cases k3 : i ≤ 48
                · have hkx : kindIx i = 3 := by simp [kindIx, k1, k2, k3]
                  have HV : Hid (shapeV (fun j => sumAt cl j + one 3 j) (maxOf hl + 1) = .agg #[.int .i64 ((A0 0 : Int)), .int .i64 ((A0 1 : Int)), .int .i64 ((A0 2 : Int)), .int .i64 ((A0 3 : Int) + 1), .int .i64 ((A0 4 : Int)), .int .i64 ((M0 : Int) + 1)]) := by
                    have u0 := HU.out 0; have u1 := HU.out 1; have u2 := HU.out 2; have u3 := HU.out 3; have u4 := HU.out 4; have ue := HE.out
                    show _ = _
                    simp [shapeV, one, ← u0, ← u1, ← u2, ← u3, ← u4, ← ue]
                  go_wp2
                  try rw [hkx]
                  rw [HV.out]
                  exact bodyPost_ret (v := .agg #[.int .i64 ((A0 0 : Int)), .int .i64 ((A0 1 : Int)), .int .i64 ((A0 2 : Int)), .int .i64 ((A0 3 : Int) + 1), .int .i64 ((A0 4 : Int)), .int .i64 ((M0 : Int) + 1)]) (by simp [results, Tryz.results26, go_sem, r0, r1, r2, r3, r4, r5]) rfl ⟨rfl, (((((((HW.out.below.setCell (by simp) _).setCell (by simp) _).setCell (by simp) _).setCell (by simp) _).setCell (by simp) _).setCell (by simp) _).setCell (by simp) _).setCell (by simp) _⟩
                · have hkx : kindIx i = 4 := by simp [kindIx, k1, k2, k3]
                  have HV : Hid (shapeV (fun j => sumAt cl j + one 4 j) (maxOf hl + 1) = .agg #[.int .i64 ((A0 0 : Int)), .int .i64 ((A0 1 : Int)), .int .i64 ((A0 2 : Int)), .int .i64 ((A0 3 : Int)), .int .i64 ((A0 4 : Int) + 1), .int .i64 ((M0 : Int) + 1)]) := by
                    have u0 := HU.out 0; have u1 := HU.out 1; have u2 := HU.out 2; have u3 := HU.out 3; have u4 := HU.out 4; have ue := HE.out
                    show _ = _
                    simp [shapeV, one, ← u0, ← u1, ← u2, ← u3, ← u4, ← ue]
                  go_wp2
                  try rw [hkx]
                  rw [HV.out]
                  exact bodyPost_ret (v := .agg #[.int .i64 ((A0 0 : Int)), .int .i64 ((A0 1 : Int)), .int .i64 ((A0 2 : Int)), .int .i64 ((A0 3 : Int)), .int .i64 ((A0 4 : Int) + 1), .int .i64 ((M0 : Int) + 1)]) (by simp [results, Tryz.results26, go_sem, r0, r1, r2, r3, r4, r5]) rfl ⟨rfl, (((((((HW.out.below.setCell (by simp) _).setCell (by simp) _).setCell (by simp) _).setCell (by simp) _).setCell (by simp) _).setCell (by simp) _).setCell (by simp) _).setCell (by simp) _⟩

end Go.Proofs.YtcgjppacnhmjlaaGreat
