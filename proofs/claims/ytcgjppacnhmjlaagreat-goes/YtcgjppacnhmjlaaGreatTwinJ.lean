/- played: the walk. -/
import Derived.Test.YtcgjppacnhmjlaaGreatTwinI
set_option linter.unusedVariables false
set_option linter.unusedSimpArgs false
namespace Go.Proofs.YtcgjppacnhmjlaaGreat
open Go.RowKit
attribute [local go_sem ↓] Go.wp_at_zero Go.wp_at_succ

def wdB (most : Int) : Obj := .cells #[.slice none 0 0, .int .i64 most] 28
theorem wd_new (w : World) (most : Int) : Wd (fun k => if k = w.heap.size then 100 else 0) (w.alloc (wdB most)) w.heap.size most (.slice none 0 0) [] :=
  ⟨heap_alloc_new w _, if_pos rfl, World.ownsRow_nil _ _ _ _, fun g e => by simp [Value.ownBlock] at e, fun i t h => by simp at h, fun k hk => if_neg (by simp at hk; omega), by simp⟩
/-- Two indexes, ahead of the script. -/
theorem begun_two {w w2 : World} {W : Nat} {most : Int} {av : Value} {ρ : Nat → Nat} {t : Nat × Nat × List KV} (hz : ∀ k, k < w.heap.size → ρ k = 0) (hb : Below w.heap.size w w2) (h : Wd ρ w2 W most av [t]) :
    Calls Tryz.prog 9 #[.pointer (some ⟨W, 0, none⟩), .pointer (some ⟨w2.heap.size, 0, none⟩), .pointer (some ⟨w2.heap.size + 1, 0, none⟩)] ((w2.alloc ixB).alloc rfB) fun e w' => e = .returned (.bool true) ∧ ∃ g cap, 2 ≤ cap ∧ St w W most (.slice (some ⟨g, 0, none⟩) 2 cap) 2 w' := by
  obtain ⟨ρ1, m1, w1, t1⟩ := fresh_twin h
  refine (add_any w1 t1 (by simp)).mono ?_
  rintro e w' ⟨rfl, ρ', av', m2, hW⟩
  obtain ⟨g, cap, rfl, hcap, _, _⟩ := hW.at (by simp)
  obtain ⟨h1, h2⟩ := (m1.trans m2).below hz hb
  exact ⟨rfl, g, cap, hcap, ρ', _, h1, h2, hW, rfl⟩

set_option maxRecDepth 100000 in
set_option maxHeartbeats 4000000 in
theorem played_any {w : World} {v : Value} {ops : List OpD} {most : Int} (hm : most < 6) (hv : OpsAt w v ops) (hlen : ops.length ≤ 9223372036854775807) (hops : ∀ o ∈ ops, OpFits o) :
    Calls Tryz.prog 7 #[v, .int .i64 most] w fun e w' => e = .returned (.bool true) ∧ Below w.heap.size w w' := by
  have HBegun : Hid (Calls Tryz.prog 8 #[.pointer (some ⟨w.heap.size, 0, none⟩), .int .i64 most] (w.alloc (wdB most)) fun e w' => e = .returned (.bool true) ∧ Hid (∃ ρ av t, (∀ k, k < w.heap.size → ρ k = 0) ∧ Below w.heap.size w w' ∧ Wd ρ w' w.heap.size most av [t])) := by
    refine (begun_any (wd_new w most)).mono ?_
    rintro e w' ⟨rfl, ρ', av', t, hm, hW⟩
    obtain ⟨h1, h2⟩ := hm.below (w := w) (fun k hk => if_neg (by omega)) (below_alloc w _)
    exact ⟨rfl, ρ', av', t, h1, h2, hW⟩
  obtain ⟨ao, kb, p, cap0, rfl, hcells⟩ := hv
  have HOps : Hid (∀ w1, Below w.heap.size w w1 → ∀ (i : Nat) o, ops[i]? = some o → ao = some ⟨kb, p, none⟩ ∧ OpCells w1 kb (p + i * 9) o) := fun w1 hb i o ho => ⟨(hcells i o ho).1, (hcells i o ho).2.on (n := 0) hb⟩
  have HF : Hid (∀ o ∈ ops, OpFits o) := hops
  have HNew : Hid (∀ w1, Calls Tryz.prog 10 #[] w1 fun e w' => e = .returned (.pointer (some ⟨w1.heap.size, 0, none⟩)) ∧ w' = w1.alloc ixB) := fun w1 => new_any w1
  clear hcells hops
  have e1 : ∀ w1 : World, w1.alloc (.cells #[.slice none 0 0] 36) = w1.alloc rfB := fun _ => rfl
  have e2 : ∀ (w1 : World) (x r : Nat), w1.alloc (.cells #[.pointer (some ⟨x, 0, none⟩), .pointer (some ⟨r, 0, none⟩)] 42) = w1.alloc (twB x r) := fun _ _ _ => rfl
  have e3 : ∀ w1 : World, w1.alloc (.cells #[.slice none 0 0, .int .i64 most] 28) = w1.alloc (wdB most) := fun _ => rfl
  have hm8 : most < 8 := by omega
  have hm6 : ¬ (6 : Int) ≤ most := by omega
  go_enter Tryz.func7, Tryz.ntmps7
  go_wp2_with (first
    | (go_at_call 8; refine HBegun.out.mono ?_; rintro e w2 ⟨rfl, HW2⟩)
    | (go_at_call 10; refine (HNew.out _).mono ?_; rintro e w1 ⟨rfl, rfl⟩)
    | (go_at_call 9; obtain ⟨ρ2, av2, t2, q1, q2, q3⟩ := HW2.out; refine (begun_two q1 q2 q3).mono ?_; clear q1 q2 q3 HW2; rintro e w3 ⟨rfl, g, cap, hcap, hst⟩; have HST : Hid (St w w.heap.size most (.slice (some ⟨g, 0, none⟩) 2 cap) 2 w3) := hst; clear hst))
  go_loopg [6, 7] ops.length (fun gk s6 s7 wr => ∃ i : Nat, s6 = .bool true ∧ s7 = .int .i64 i ∧ i ≤ ops.length ∧ gk = ops.length - i ∧ Hid (St w w.heap.size most (.slice (some ⟨g, 0, none⟩) 2 cap) 2 wr))
  case atStart => exact ⟨0, rfl, rfl, by omega, rfl, HST.out⟩
  case round =>
    obtain ⟨i, rfl, rfl, hi, rfl, HS⟩ := hrel
    clear HST
    by_cases hlt : i < ops.length
    · obtain ⟨o, ho⟩ : ∃ o, ops[i]? = some o := ⟨_, List.getElem?_eq_getElem hlt⟩
      have hof := HF.out o (List.mem_of_getElem? ho)
      have HOF : Hid (OpFits o) := hof
      obtain ⟨rfl, hc⟩ := HOps.out _ (by obtain ⟨ρ, ts, _, hb, _, _⟩ := HS.out; exact hb) i o ho
      obtain ⟨c0, c1, c2, c3, c4, c5, c6, c7, c8⟩ := hc
      have hltI : (i : Int) < (ops.length : Int) := by omega
      clear hof ho
      by_cases hk : o.kind ≤ most
      · go_wp2_with (
          (go_at_call 11; refine (HS.out.step (o := o) (by omega) (by omega) (by omega) HOF.out).mono ?_; rintro e w5 ⟨rfl, hst⟩; have HS5 : Hid (St w w.heap.size most (.slice (some ⟨g, 0, none⟩) 2 cap) 2 w5) := hst; clear hst))
        go_roundg (ops.length - (i + 1))
        case measure => omega
        case rel => exact ⟨i + 1, rfl, by go_num, by omega, rfl, HS5.out⟩
      · go_wp2_with fail
        go_roundg (ops.length - (i + 1))
        case measure => omega
        case rel => exact ⟨i + 1, rfl, by go_num, by omega, rfl, HS.out⟩
    · have hge : ¬ (i : Int) < (ops.length : Int) := by omega
      go_wp2_with fail
      clear hge hlt
      go_loopg [6, 8, 9, 10] 2 (fun gk s6 s8 s9 s10 wr => ∃ j : Nat, s6 = .bool true ∧ s8 = .int .i64 j ∧ j ≤ 2 ∧ gk = 2 - j ∧ Hid (St w w.heap.size most (.slice (some ⟨g, 0, none⟩) 2 cap) 2 wr))
      case atStart => exact ⟨0, rfl, rfl, by omega, rfl, HS.out⟩
      case round =>
        clear HS
        obtain ⟨j, rfl, rfl, hj, rfl, HS⟩ := hrel
        obtain ⟨wo, hwo⟩ : ∃ x : World, x = wr := ⟨_, rfl⟩
        subst hwo
        by_cases hlt : j < 2
        · obtain ⟨x, r, a2, ga, cp, m, hm3, hxl, hrl, hat⟩ := HS.out.at hlt
          have HAT : Hid (∀ w1, Below wo.heap.size wo w1 → Fin1 wo w.heap.size g cap 2 j x r a2 ga cp m w1) := hat
          have f1 := (hat wo (Below.refl _ _)).cl
          have f2 := (hat wo (Below.refl _ _)).cx
          have f3 := (hat wo (Below.refl _ _)).cr
          have hltI : (j : Int) < 2 := by omega
          have HB0 : Hid (Below wo.heap.size wo (wo.alloc (twB x r))) := below_alloc wo _
          have HC : Hid (∀ w1, Below (wo.alloc (twB x r)).heap.size (wo.alloc (twB x r)) w1 → w1.cell? ⟨wo.heap.size, 0, none⟩ = some (.pointer (some ⟨x, 0, none⟩)) ∧ w1.cell? ⟨wo.heap.size, 1, none⟩ = some (.pointer (some ⟨r, 0, none⟩)) ∧ w1.cell? ⟨r, 0, none⟩ = some (.slice a2 m cp)) := fun w1 hb => by
            have hbk : w1.heap[wo.heap.size]? = some (twB x r) := (hb.block _ (by simp)).trans (heap_alloc_new wo _)
            exact ⟨(twB_cells hbk).1, (twB_cells hbk).2, (hat w1 (HB0.out.trans (hb.mono HB0.out.size))).cL⟩
          clear hat
          go_wp2_with fail
          clear f1 f2 f3
          go_region_held3 (fun w' => w'.cell? ⟨wo.heap.size, 0, none⟩ = some (.pointer (some ⟨x, 0, none⟩)) ∧ w'.cell? ⟨wo.heap.size, 1, none⟩ = some (.pointer (some ⟨r, 0, none⟩)) ∧ w'.cell? ⟨r, 0, none⟩ = some (.slice a2 m cp)) (first | exact HC.out _ ((Below.refl _ _).drew) | go_keep) ((go_at_call 12; refine ((HAT.out _ HB0.out.drew).len).mono ?_; rintro e w6 ⟨rfl, rfl⟩))
          go_wp2_with fail
          go_loopg [6, 10] m (fun gk s6 s10 w9 => ∃ k : Nat, s6 = .bool true ∧ s10 = .int .i64 k ∧ k ≤ m ∧ gk = m - k ∧ Hid (Below (wo.alloc (twB x r)).heap.size (wo.alloc (twB x r)) w9))
          case atStart => exact ⟨0, by first | rfl | simp, rfl, by omega, rfl, (Below.refl _ _).drew⟩
          case round =>
            obtain ⟨k, rfl, rfl, hk, rfl, HB9⟩ := hrel
            obtain ⟨d0, d1, d2⟩ := HC.out _ HB9.out
            have HB8 : Hid (Below wo.heap.size wo wr) := HB0.out.trans (HB9.out.mono HB0.out.size)
            by_cases hkl : k < m
            · obtain ⟨key, hkey, rfl, hkc⟩ := (HAT.out _ HB8.out).key k hkl
              have HKC : Hid (∀ w2, Below wo.heap.size wo w2 → w2.cell? ⟨ga, k * 2, none⟩ = some (.string key)) := hkc
              have hkI : (k : Int) < (m : Int) := by omega
              have d3 := HKC.out _ HB8.out
              clear hkc
              go_wp2_with fail
              go_region_held3 (fun w' => w'.cell? ⟨wo.heap.size, 0, none⟩ = some (.pointer (some ⟨x, 0, none⟩)) ∧ w'.cell? ⟨wo.heap.size, 1, none⟩ = some (.pointer (some ⟨r, 0, none⟩)) ∧ w'.cell? ⟨r, 0, none⟩ = some (.slice (some ⟨ga, 0, none⟩) m cp) ∧ w'.cell? ⟨ga, k * 2, none⟩ = some (.string key)) (first | exact ⟨d0, d1, d2, d3⟩ | exact ⟨(HC.out _ hb10).1, (HC.out _ hb10).2.1, (HC.out _ hb10).2.2, HKC.out _ (HB0.out.trans (hb10.mono HB0.out.size))⟩ | go_keep) ((go_at_call 13; refine ((HAT.out _ HB8.out.drew).get key hkey).mono ?_; rintro e w10 ⟨rfl, hb10'⟩; have hb10 : Below (wo.alloc (twB x r)).heap.size (wo.alloc (twB x r)) w10 := HB9.out.drew.trans (hb10'.mono HB9.out.size); clear hb10'))
              go_wp2_with fail
              go_roundg (m - (k + 1))
              case measure => omega
              case rel => exact ⟨k + 1, rfl, by go_num, by omega, rfl, hb10⟩
            · have hkI : ¬ (k : Int) < (m : Int) := by omega
              by_cases h5 : (5 : Int) ≤ most
              · go_wp2_with (
                  (go_at_call 14; refine ((HAT.out _ HB8.out).shaped).mono ?_; rintro e w10 ⟨rfl, hb10⟩; have HS10 : Hid (St w w.heap.size most (.slice (some ⟨g, 0, none⟩) 2 cap) 2 w10) := HS.out.on (HB8.out.trans (hb10.mono HB8.out.size)); clear hb10))
                go_roundg (2 - (j + 1))
                case measure => omega
                case rel => exact ⟨j + 1, rfl, by go_num, by omega, rfl, HS10.out⟩
              · go_wp2_with fail
                go_roundg (2 - (j + 1))
                case measure => omega
                case rel => exact ⟨j + 1, rfl, by go_num, by omega, rfl, HS.out.on HB8.out⟩
        · obtain rfl : j = 2 := by omega
          have f1 : wo.cell? ⟨w.heap.size, 0, none⟩ = some (.slice (some ⟨g, 0, none⟩) 2 cap) := by
            obtain ⟨ρ, ts, _, _, hW, _⟩ := HS.out; exact hW.cellL
          go_wp2_with fail
          go_ret
          obtain ⟨ρ, ts, _, hb, _, _⟩ := HS.out
          exact ⟨rfl, hb⟩

end Go.Proofs.YtcgjppacnhmjlaaGreat
