/- begun: an index that keeps the document's four keys. -/
import Derived.Test.YtcgjppacnhmjlaaGreatTwinG
set_option linter.unusedVariables false
set_option linter.unusedSimpArgs false
namespace Go.Proofs.YtcgjppacnhmjlaaGreat
open Go.RowKit
attribute [local go_sem ↓] Go.wp_at_zero Go.wp_at_succ

def l4B : Obj := .cells #[.string ⟨#[97, 98, 100]⟩, .string ⟨#[]⟩, .string ⟨#[97, 98, 99]⟩, .string ⟨#[97]⟩] 9
/-- Behind the first i keys. -/
structure B4 (ρ : Nat → Nat) (w : World) (W : Nat) (most : Int) (av : Value) (x r tb lb i : Nat) (wr : World) : Prop where
  ex : ∃ ρ', Moved NZ ρ w ρ' wr ∧ Wd ρ' wr W most av [(x, r, put4 i)] ∧ ρ' tb = 0 ∧ ρ' lb = 0
  tbk : wr.heap[tb]? = some (twB x r)
  lbk : wr.heap[lb]? = some l4B
theorem B4.on {ρ : Nat → Nat} {w wr w' : World} {W : Nat} {most : Int} {av : Value} {x r tb lb i : Nat} (h : B4 ρ w W most av x r tb lb i wr) (hb : Below wr.heap.size wr w') : B4 ρ w W most av x r tb lb i w' := by
  obtain ⟨ρ', h1, h2, h3, h4⟩ := h.ex
  exact ⟨⟨ρ', h1.trans (Moved.of_below h2.fresh hb), h2.on hb, h3, h4⟩, (hb.block _ (idx_lt h.tbk)).trans h.tbk, (hb.block _ (idx_lt h.lbk)).trans h.lbk⟩
theorem B4.cells {ρ : Nat → Nat} {w wr : World} {W : Nat} {most : Int} {av : Value} {x r tb lb i : Nat} (h : B4 ρ w W most av x r tb lb i wr) (j : Nat) (hj : j < 4) : wr.cell? ⟨tb, 0, none⟩ = some (.pointer (some ⟨x, 0, none⟩)) ∧ wr.cell? ⟨tb, 1, none⟩ = some (.pointer (some ⟨r, 0, none⟩)) ∧ wr.cell? ⟨lb, j, none⟩ = some (.string (keys4 j)) := by
  obtain ⟨a, b⟩ := twB_cells h.tbk
  refine ⟨a, b, ?_⟩
  have hl := h.lbk
  have : j = 0 ∨ j = 1 ∨ j = 2 ∨ j = 3 := by omega
  rcases this with rfl | rfl | rfl | rfl <;> simp [World.cell?, hl, l4B, keys4]
theorem keys4_size (j : Nat) : (keys4 j).size ≤ 64 := by
  unfold keys4; split <;> decide
theorem B4.put {ρ : Nat → Nat} {w wr : World} {W : Nat} {most : Int} {av : Value} {x r tb lb i : Nat} (h : B4 ρ w W most av x r tb lb i wr) :
    Calls Tryz.prog 16 #[.agg #[.pointer (some ⟨x, 0, none⟩), .pointer (some ⟨r, 0, none⟩)], .string (keys4 i), .int .i64 i] wr fun e w' => e = .returned (.bool true) ∧ B4 ρ w W most av x r tb lb (i + 1) w' := by
  obtain ⟨ρ', h1, h2, h3, h4⟩ := h.ex
  refine (tput_any (h2.tw 0 _ rfl) h2.fresh (by have := keys4_size i; omega)).mono ?_
  rintro e w' ⟨rfl, ρ2, m, t⟩
  have hz : ∀ k, k < wr.heap.size → ρ' k = 0 → w'.heap[k]? = wr.heap[k]? := fun k hk e => m.block k hk (by rw [e]; exact part0 0)
  exact ⟨rfl, ⟨ρ2, h1.trans (m.nz (by omega)), h2.set (i := 0) rfl m t, (m.agree _ (idx_lt h.tbk)).trans h3, (m.agree _ (idx_lt h.lbk)).trans h4⟩, (hz _ (idx_lt h.tbk) h3).trans h.tbk, (hz _ (idx_lt h.lbk) h4).trans h.lbk⟩
theorem B4.get {ρ : Nat → Nat} {w wr : World} {W : Nat} {most : Int} {av : Value} {x r tb lb : Nat} (h : B4 ρ w W most av x r tb lb 4 wr) :
    Calls Tryz.prog 17 #[.pointer (some ⟨x, 0, none⟩), .string ⟨#[97, 98, 99]⟩] wr fun e w' => e = .returned (.tuple #[.int .i64 2, .bool true]) ∧ B4 ρ w W most av x r tb lb 4 w' := by
  obtain ⟨ρ', h1, h2, h3, h4⟩ := h.ex
  refine (indexGet_any (h2.tw 0 _ rfl).ix (by decide)).mono ?_
  rintro e w' ⟨rfl, hb⟩
  refine ⟨?_, h.on hb⟩
  show Ending.returned (.tuple #[.int .i64 (valOr (lk [97, 98, 99] (put4 4))), .bool (lk [97, 98, 99] (put4 4)).isSome]) = _
  rw [lk4]
  rfl
theorem B4.shape {ρ : Nat → Nat} {w wr : World} {W : Nat} {most : Int} {av : Value} {x r tb lb : Nat} (h : B4 ρ w W most av x r tb lb 4 wr) :
    Calls Tryz.prog 18 #[.pointer (some ⟨x, 0, none⟩)] wr fun e w' => e = .returned (.agg #[.int .i64 2, .int .i64 3, .int .i64 0, .int .i64 0, .int .i64 0, .int .i64 4]) ∧ B4 ρ w W most av x r tb lb 4 w' := by
  obtain ⟨ρ', h1, h2, h3, h4⟩ := h.ex
  obtain ⟨c, g, hs, hc⟩ := indexShape_any (h2.tw 0 _ rfl).ix
  obtain ⟨rfl, rfl⟩ := hs.uniq shape4
  refine hc.mono ?_
  rintro e w' ⟨rfl, hb⟩
  exact ⟨rfl, h.on hb⟩

set_option maxRecDepth 100000 in
set_option maxHeartbeats 2000000 in
theorem begun_any {ρ : Nat → Nat} {w : World} {W : Nat} {most : Int} (h : Wd ρ w W most (.slice none 0 0) []) :
    Calls Tryz.prog 8 #[.pointer (some ⟨W, 0, none⟩), .int .i64 most] w fun e w' => e = .returned (.bool true) ∧ ∃ ρ' av' t, Moved NZ ρ w ρ' w' ∧ Wd ρ' w' W most av' [t] := by
  have HNew : Hid (Calls Tryz.prog 10 #[] w fun e w' => e = .returned (.pointer (some ⟨w.heap.size, 0, none⟩)) ∧ w' = w.alloc ixB) := new_any w
  have HAdd : Hid (Calls Tryz.prog 9 #[.pointer (some ⟨W, 0, none⟩), .pointer (some ⟨w.heap.size, 0, none⟩), .pointer (some ⟨w.heap.size + 1, 0, none⟩)] ((w.alloc ixB).alloc rfB) fun e w' => e = .returned (.bool true) ∧ ∃ g cap, Hid (∃ ρ', Moved NZ ρ w ρ' w' ∧ Wd ρ' w' W most (.slice (some ⟨g, 0, none⟩) 1 cap) [(w.heap.size, w.heap.size + 1, [])]) ∧ 1 ≤ cap ∧ w'.cell? ⟨W, 0, none⟩ = some (.slice (some ⟨g, 0, none⟩) 1 cap) ∧ w'.cell? ⟨g, 0, none⟩ = some (.pointer (some ⟨w.heap.size, 0, none⟩)) ∧ w'.cell? ⟨g, 1, none⟩ = some (.pointer (some ⟨w.heap.size + 1, 0, none⟩))) := by
    obtain ⟨ρ1, m1, w1, t1⟩ := fresh_twin h
    refine (add_any w1 t1 (by simp)).mono ?_
    rintro e w' ⟨rfl, ρ', av', m2, w2⟩
    obtain ⟨g, cap, rfl, hcap, _, hrow⟩ := w2.at (by simp)
    obtain ⟨a, b⟩ := hrow 0 _ rfl
    exact ⟨rfl, g, cap, ⟨ρ', m1.trans m2, w2⟩, hcap, w2.cellL, a, b⟩
  clear h
  have e1 : ∀ w1 : World, w1.alloc (.cells #[.slice none 0 0] 36) = w1.alloc rfB := fun _ => rfl
  have e2 : ∀ (w1 : World) (x r : Nat), w1.alloc (.cells #[.pointer (some ⟨x, 0, none⟩), .pointer (some ⟨r, 0, none⟩)] 42) = w1.alloc (twB x r) := fun _ _ _ => rfl
  have e3 : ∀ w1 : World, w1.alloc (.cells #[.string ⟨#[97, 98, 100]⟩, .string ⟨#[]⟩, .string ⟨#[97, 98, 99]⟩, .string ⟨#[97]⟩] 9) = w1.alloc l4B := fun _ => rfl
  go_enter Tryz.func8, Tryz.ntmps8
  go_wp2_with (first
    | (go_at_call 10; refine HNew.out.mono ?_; rintro e w1 ⟨rfl, rfl⟩)
    | (go_at_call 9; refine HAdd.out.mono ?_; rintro e w3 ⟨rfl, g, cap, HW3, hcap, hc0, hc1, hc2⟩))
  go_loopg [9, 10] 4 (fun gk s9 s10 wr => ∃ i : Nat, s9 = .int .i64 i ∧ i ≤ 4 ∧ gk = 4 - i ∧ Hid (B4 ρ w W most (.slice (some ⟨g, 0, none⟩) 1 cap) w.heap.size (w.heap.size + 1) w3.heap.size (w3.heap.size + 1) i wr))
  case atStart =>
    refine ⟨0, rfl, by omega, rfl, ?_⟩
    obtain ⟨ρ', m, hW⟩ := HW3.out
    have hb : Below w3.heap.size w3 ((w3.alloc (twB w.heap.size (w.heap.size + 1))).alloc l4B) := (below_alloc w3 _).alloc (below_alloc w3 _).size _
    exact ⟨⟨ρ', m.trans (Moved.of_below hW.fresh hb), hW.on hb, hW.fresh _ (Nat.le_refl _), hW.fresh _ (by omega)⟩, old_new w3 _ _, new_new w3 _ _⟩
  case round =>
    obtain ⟨i, rfl, hi, rfl, HB⟩ := hrel
    clear HW3 hc0 hc1 hc2
    by_cases hlt : i < 4
    · have hltI : (i : Int) < 4 := by omega
      obtain ⟨d0, d1, d2⟩ := HB.out.cells i hlt
      have HS : Hid (∀ i wr, B4 ρ w W most (.slice (some ⟨g, 0, none⟩) 1 cap) w.heap.size (w.heap.size + 1) w3.heap.size (w3.heap.size + 1) i wr → ∀ j, j < 4 → wr.cell? ⟨w3.heap.size, 0, none⟩ = some (.pointer (some ⟨w.heap.size, 0, none⟩)) ∧ wr.cell? ⟨w3.heap.size, 1, none⟩ = some (.pointer (some ⟨w.heap.size + 1, 0, none⟩)) ∧ wr.cell? ⟨w3.heap.size + 1, j, none⟩ = some (.string (keys4 j))) := fun i wr h j hj => h.cells j hj
      go_wp2_with fail
      go_region_held3 (fun w' => w'.cell? ⟨w3.heap.size, 0, none⟩ = some (.pointer (some ⟨w.heap.size, 0, none⟩)) ∧ w'.cell? ⟨w3.heap.size, 1, none⟩ = some (.pointer (some ⟨w.heap.size + 1, 0, none⟩)) ∧ w'.cell? ⟨w3.heap.size + 1, i, none⟩ = some (.string (keys4 i))) (first | exact ⟨d0, d1, d2⟩ | exact HS.out _ _ hB6 i hlt | go_keep) ((go_at_call 16; refine ((HB.out.on ((Below.refl _ _).drew)).put).mono ?_; rintro e w6 ⟨rfl, hB6⟩))
      go_wp2_with fail
      go_roundg (4 - (i + 1))
      case measure => omega
      case rel => exact ⟨i + 1, by go_num, by omega, rfl, hB6⟩
    · obtain rfl : i = 4 := by omega
      go_wp2_with (first
        | (go_at_call 17; refine HB.out.get.mono ?_; rintro e w7 ⟨rfl, hB7⟩; have HB7 : Hid (B4 ρ w W most (.slice (some ⟨g, 0, none⟩) 1 cap) w.heap.size (w.heap.size + 1) w3.heap.size (w3.heap.size + 1) 4 w7) := hB7; clear hB7)
        | (go_at_call 18; refine HB7.out.shape.mono ?_; rintro e w8 ⟨rfl, hB8⟩; have HB8 : Hid (B4 ρ w W most (.slice (some ⟨g, 0, none⟩) 1 cap) w.heap.size (w.heap.size + 1) w3.heap.size (w3.heap.size + 1) 4 w8) := hB8; clear hB8))
      all_goals go_ret
      · obtain ⟨ρ', h1, h2, _⟩ := (HB8.out.on (below_alloc w8 _)).ex
        exact ⟨rfl, ρ', _, _, h1, h2⟩
      · obtain ⟨ρ', h1, h2, _⟩ := HB7.out.ex
        exact ⟨rfl, ρ', _, _, h1, h2⟩

end Go.Proofs.YtcgjppacnhmjlaaGreat
