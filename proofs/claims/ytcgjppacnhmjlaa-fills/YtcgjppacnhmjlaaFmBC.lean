/- Own texts: PShort, PAwake. -/
import Derived.Test.YtcgjppacnhmjlaaFmAX
import Derived.OwnWalk

section
set_option linter.unusedVariables false
set_option linter.unusedSimpArgs false
set_option linter.unusedSectionVars false
set_option linter.unusedVariables false
set_option linter.unusedSimpArgs false
namespace Go.Proofs.Ytcgjppacnhmjlaa
open Go.RowKit

/-- A list of texts that lies in memory. -/
def StrsAt (w : World) (v : Value) (ss : List ByteArray) : Prop :=
  (ss = [] ∧ ∃ ao c, v = .slice ao 0 c) ∨ ∃ k o c, v = .slice (some ⟨k, o, none⟩) ss.length c ∧ ∀ (i : Nat) s, ss[i]? = some s → w.cell? ⟨k, o + i, none⟩ = some (.string s)

def cut64 (s : ByteArray) : ByteArray := if 64 < s.size then s.extract 0 64 else s
def shortOf (ss : List ByteArray) : List ByteArray := (ss.take 300).map cut64
theorem cut64_size (s : ByteArray) : (cut64 s).size ≤ 64 := by
  unfold cut64; split
  · simp; omega
  · omega
theorem shortOf_len (ss : List ByteArray) : (shortOf ss).length = min 300 ss.length := by simp [shortOf]
theorem infoS : (Try.prog.info? 9).map (fun i => (i.zero, i.size, i.bytes)) = some (some (.string ⟨#[]⟩), 1, 16) := by kernel_rfl

theorem strs_take_succ (ss : List ByteArray) (j : Nat) (s : ByteArray) (h : ss[j]? = some s) : (ss.take (j + 1)).map Value.string = (ss.take j).map Value.string ++ [.string s] := by
  rw [List.take_add_one, h]; simp

set_option maxRecDepth 100000 in
set_option maxHeartbeats 1000000 in
theorem short_some (k o c : Nat) (ss : List ByteArray) (w : World) (hc : ∀ (i : Nat) s, ss[i]? = some s → w.cell? ⟨k, o + i, none⟩ = some (.string s)) (hlen : ss.length ≤ 9223372036854775807) (hsz : ∀ s ∈ ss, s.size ≤ 9223372036854775807) :
    Calls Try.prog 9 #[.slice (some ⟨k, o, none⟩) ss.length c] w fun e w' => ∃ v, e = .returned v ∧ w'.ownsRow w.heap.size 9 1 v (shortOf ss).length ((shortOf ss).map Value.string) ∧ Below w.heap.size w w' := by
  obtain ⟨i0, hi0, hz0, hz1, hz2⟩ := info_parts infoS
  have HC : Hid (∀ (i : Nat) s, ss[i]? = some s → w.cell? ⟨k, o + i, none⟩ = some (.string s)) := hc
  have HZ : Hid (∀ s ∈ ss, s.size ≤ 9223372036854775807) := hsz
  clear hc hsz
  go_enter Try.func9, Try.ntmps9
  go_wp2
  go_loopg [3, 4] ss.length (fun gk v i wr => ∃ j : Nat, j ≤ ss.length ∧ j ≤ 300 ∧ gk + j = ss.length ∧ i = .int .i64 j ∧ Hid (wr.ownsRow w.heap.size 9 1 v j (((shortOf ss).take j).map Value.string)) ∧ Hid (Below w.heap.size w wr))
  case atStart => exact ⟨0, Nat.zero_le _, by omega, by omega, rfl, World.ownsRow_nil _ _ _ _, Below.refl _ _⟩
  case round =>
    obtain ⟨j, hj, hj2, hg, rfl, HO, HB⟩ := hrel
    by_cases h1 : j < ss.length
    · by_cases h2 : j < 300
      · obtain ⟨s, hs⟩ : ∃ s, ss[j]? = some s := ⟨ss[j], List.getElem?_eq_getElem h1⟩
        have hcell := cell_later HB.out (HC.out j s hs)
        have hss := HZ.out s (List.mem_of_getElem? hs)
        have hcut : (shortOf ss)[j]? = some (cut64 s) := by simp [shortOf, List.getElem?_take, h2, hs]
        have HT : Hid (((shortOf ss).take (j + 1)).map Value.string = ((shortOf ss).take j).map Value.string ++ [.string (cut64 s)]) := strs_take_succ _ _ _ hcut
        clear hs hcut
        by_cases h3 : 64 < s.size
        · have hce : cut64 s = s.extract 0 64 := if_pos h3
          rw [hce] at HT
          clear hce
          go_wp2_with (at_builtin; refine wpList_append_lies _ rfl _ _ _ rfl w.heap.size 9 i0 (.string ⟨#[]⟩) 1 16 Try.underlying22 hi0 hz0 hz1 hz2 rfl (by omega) _ j _ rfl (HO.out.alloc _) ⟨wr.heap.size, 0, none⟩ 1 1 [.string (s.extract 0 64)] rfl rfl (World.news_of_block (cs := #[.string (s.extract 0 64)]) (t := 9) (fr := (0, 0)) (heap_alloc_new wr _)) (by simp [Value.oneCell']) (by omega) (by unfold maxLen; omega) (by omega) (by have := HB.out.size; simp; omega) _ rfl ?_; intro g cap w1 hown1 hgrow1 hat1 hlt1)
          go_roundg (gk - 1)
          case measure => omega
          case rel => exact ⟨j + 1, by omega, by omega, by omega, by go_num, by rw [HT.out]; exact hown1, Below.grown (HB.out.alloc HB.out.size _) hgrow1 (by have := HB.out.size; simp; omega) (fun _ hk => ownBlock_ge HO.out hk)⟩
        · have hce : cut64 s = s := if_neg h3
          rw [hce] at HT
          clear hce
          go_wp2_with (at_builtin; refine wpList_append_lies _ rfl _ _ _ rfl w.heap.size 9 i0 (.string ⟨#[]⟩) 1 16 Try.underlying22 hi0 hz0 hz1 hz2 rfl (by omega) _ j _ rfl (HO.out.alloc _) ⟨wr.heap.size, 0, none⟩ 1 1 [.string (s)] rfl rfl (World.news_of_block (cs := #[.string (s)]) (t := 9) (fr := (0, 0)) (heap_alloc_new wr _)) (by simp [Value.oneCell']) (by omega) (by unfold maxLen; omega) (by omega) (by have := HB.out.size; simp; omega) _ rfl ?_; intro g cap w1 hown1 hgrow1 hat1 hlt1)
          go_roundg (gk - 1)
          case measure => omega
          case rel => exact ⟨j + 1, by omega, by omega, by omega, by go_num, by rw [HT.out]; exact hown1, Below.grown (HB.out.alloc HB.out.size _) hgrow1 (by have := HB.out.size; simp; omega) (fun _ hk => ownBlock_ge HO.out hk)⟩
      · have hj3 : j = 300 := by omega
        have HE : Hid ((shortOf ss).length = j ∧ (shortOf ss).take j = shortOf ss) := by
          have : (shortOf ss).length = j := by rw [shortOf_len]; omega
          exact ⟨this, List.take_of_length_le (by omega)⟩
        go_wp2
        go_ret
        exact ⟨_, rfl, by rw [HE.out.1]; have := HO.out; rw [HE.out.2] at this; exact this, HB.out⟩
    · have HE : Hid ((shortOf ss).length = j ∧ (shortOf ss).take j = shortOf ss) := by
        have : (shortOf ss).length = j := by rw [shortOf_len]; omega
        exact ⟨this, List.take_of_length_le (by omega)⟩
      go_wp2
      go_ret
      exact ⟨_, rfl, by rw [HE.out.1]; have := HO.out; rw [HE.out.2] at this; exact this, HB.out⟩

theorem short_nil (ao : Option Addr) (c : Nat) (w : World) : Calls Try.prog 9 #[.slice ao 0 c] w fun e w' => e = .returned (.slice none 0 0) ∧ w' = w := by
  go_enter Try.func9, Try.ntmps9
  go_wp2
  refine wp_loop_rounds 1 ?_
  rw [rounds_succ]
  go_wp2
  go_ret
  exact ⟨rfl, rfl⟩

/-- The texts that a row of the call's own holds. -/
theorem strs_of_own {w : World} {base : Nat} {v : Value} {ss : List ByteArray} (h : w.ownsRow base 9 1 v ss.length (ss.map Value.string)) : (ss = [] ∧ v = .slice none 0 0) ∨ ∃ k c, base ≤ k ∧ k < w.heap.size ∧ v = .slice (some ⟨k, 0, none⟩) ss.length c ∧ ∀ (i : Nat) s, ss[i]? = some s → w.cell? ⟨k, i, none⟩ = some (.string s) := by
  rcases h.2 with ⟨h1, h2⟩ | ⟨g, cap, cur, h3, h4, h5, h6, h7, h8, h9⟩
  · exact .inl ⟨List.length_eq_zero_iff.mp h2, h1⟩
  · refine .inr ⟨g, cap, h4, (Array.getElem?_eq_some_iff.mp h5).1, h3, fun i s hs => ?_⟩
    have hi : i < ss.length := (List.getElem?_eq_some_iff.mp hs).1
    have h10 : cur.toList[i]? = some (.string s) := by
      have : (cur.toList.take (ss.length * 1))[i]? = some (.string s) := by rw [h9, List.getElem?_map, hs]; rfl
      rwa [List.getElem?_take, if_pos (by omega)] at this
    simp only [World.cell?, h5]
    rw [← Array.getElem?_toList, h10]; rfl
/-- short answers the texts, cut. -/
theorem short_any {w : World} {v : Value} {ss : List ByteArray} (h : StrsAt w v ss) (hlen : ss.length ≤ 9223372036854775807) (hsz : ∀ s ∈ ss, s.size ≤ 9223372036854775807) :
    Calls Try.prog 9 #[v] w fun e w' => ∃ v', e = .returned v' ∧ ((shortOf ss = [] ∧ v' = .slice none 0 0) ∨ ∃ k c, w.heap.size ≤ k ∧ k < w'.heap.size ∧ v' = .slice (some ⟨k, 0, none⟩) (shortOf ss).length c ∧ ∀ (i : Nat) s, (shortOf ss)[i]? = some s → w'.cell? ⟨k, i, none⟩ = some (.string s)) ∧ Below w.heap.size w w' := by
  rcases h with ⟨rfl, ao, c, rfl⟩ | ⟨k, o, c, rfl, hc⟩
  · refine (short_nil ao c w).mono ?_
    rintro e w' ⟨rfl, rfl⟩
    exact ⟨_, rfl, .inl ⟨rfl, rfl⟩, Below.refl _ _⟩
  · refine (short_some k o c ss w hc hlen hsz).mono ?_
    rintro e w' ⟨v, rfl, h1, h2⟩
    exact ⟨v, rfl, strs_of_own h1, h2⟩

end Go.Proofs.Ytcgjppacnhmjlaa
end

section
set_option linter.unusedVariables false
set_option linter.unusedSimpArgs false
set_option linter.unusedSectionVars false
set_option linter.unusedVariables false
set_option linter.unusedSimpArgs false
namespace Go.Proofs.Ytcgjppacnhmjlaa
open Go.RowKit
attribute [local go_sem ↓] Go.wp_at_zero Go.wp_at_succ

def pl (x y : Int) (s : ByteArray) : Value := .agg #[.int .i64 x, .int .i64 y, .string s]
theorem infoPT : (Try.prog.info? 103).map (fun i => (i.zero, i.size, i.bytes)) = some (some (.agg #[.string ⟨#[]⟩, .pointer none, .slice none 0 0, .int .i64 0]), 4, 56) := by kernel_rfl
def PPtrOk (w : World) (p : Option Addr) : Prop := p = none ∨ ∃ t, p = some ⟨t, 0, none⟩ ∧ w.shape? t = some (103, 4)
theorem plies : liesAt Try.prog Try.prog.depth 103 (4 / Try.prog.cellsOf 103) 0 103 1 = true := by kernel_rfl
theorem pconv_back {p : Option Addr} {w : World} (h : PPtrOk w p) : (convert 74 93 (.pointer p)).run Try.prog w = .ok (.pointer p) w := by
  obtain ⟨i0, hi0, _⟩ := info_parts infoPT
  rcases h with rfl | ⟨t, rfl, h⟩
  · simp [convert, run_underlying Try.underlying74, run_underlying Try.underlying93, Conv.unsafePointer]
  · exact Lib.run_from_unsafe w _ Try.underlying74 Try.underlying93 hi0 h plies
theorem pconv_to {p : Option Addr} {w : World} (h : PPtrOk w p) : (convert 93 74 (.pointer p)).run Try.prog w = .ok (.pointer p) w := by
  obtain ⟨i0, hi0, _, h4, _⟩ := info_parts infoPT
  rcases h with rfl | ⟨t, rfl, h⟩
  · simp [convert, run_underlying Try.underlying74, run_underlying Try.underlying93, Conv.unsafePointer]
  · exact Lib.run_to_unsafe w _ Try.underlying93 Try.underlying74 hi0 (by rw [h4]; decide) h (by show 0 < 4; decide)
set_option maxRecDepth 100000 in
set_option maxHeartbeats 400000 in
theorem pload_any {xb : Nat} {p : Option Addr} {w : World} (hc : w.cell? ⟨xb, 0, none⟩ = some (.pointer p)) (hp : PPtrOk w p) : Calls Try.prog 45 #[.pointer (some ⟨xb, 0, none⟩)] w fun e w' => e = .returned (.pointer p) ∧ w' = w := by
  have hl := run_loadPointer hc
  have hcv := pconv_back hp
  clear hp
  go_enter Try.func45, Try.ntmps45
  go_wp2
  go_ret
  exact ⟨rfl, rfl⟩
set_option maxRecDepth 100000 in
set_option maxHeartbeats 400000 in
theorem pcas_any {xb : Nat} {p q : Option Addr} {w : World} (hc : w.cell? ⟨xb, 0, none⟩ = some (.pointer p)) (hz : w.frozen? ⟨xb, 0, none⟩ = false) (hp : PPtrOk w p) (hq : PPtrOk w q) :
    Calls Try.prog 48 #[.pointer (some ⟨xb, 0, none⟩), .pointer p, .pointer q] w fun e w' => e = .returned (.bool true) ∧ w' = w.setCell ⟨xb, 0, none⟩ (.pointer q) := by
  have hl := run_casPointer (q := q) hc hz
  have hcv := pconv_to hp
  have hcq := pconv_to hq
  clear hp hq hc hz
  go_enter Try.func48, Try.ntmps48
  go_wp2
  go_ret
  exact ⟨rfl, rfl⟩
theorem pnew_any (w : World) : Calls Try.prog 19 #[] w fun e w' => e = .returned (.pointer (some ⟨w.heap.size, 0, none⟩)) ∧ w' = w.alloc (.cells #[.pointer none] 98) := by
  go_enter Try.func19, Try.ntmps19
  go_wp2
  go_ret
  exact ⟨rfl, rfl⟩
theorem psize_nil (w : World) : Calls Try.prog 47 #[.pointer none] w fun e w' => e = .returned (.int .i64 0) ∧ w' = w := by
  go_enter Try.func47, Try.ntmps47
  go_wp2
  go_ret
  exact ⟨rfl, rfl⟩
theorem psize_some (b : Nat) (n : Int) (w : World) (h : w.cell? ⟨b, 3, none⟩ = some (.int .i64 n)) : Calls Try.prog 47 #[.pointer (some ⟨b, 0, none⟩)] w fun e w' => e = .returned (.int .i64 n) ∧ w' = w := by
  go_enter Try.func47, Try.ntmps47
  go_wp2
  go_ret
  exact ⟨rfl, rfl⟩
set_option maxHeartbeats 400000 in
theorem pget_nil (key : ByteArray) (w : World) : Calls Try.prog 46 #[.pointer none, .string key] w fun e w' => e = .returned (.tuple #[pl 0 0 ⟨#[]⟩, .bool false]) ∧ Below w.heap.size w w' := by
  go_enter Try.func46, Try.ntmps46
  go_wp2
  refine wp_loop_rounds 1 ?_
  rw [rounds_succ]
  go_wp2
  exact bodyPost_ret (v := .tuple #[pl 0 0 ⟨#[]⟩, .bool false]) (by simp [results, Try.results46, go_sem, pl]) rfl ⟨rfl, ((Below.refl _ _).alloc (Nat.le_refl _) _).alloc (by simp) _⟩
set_option maxHeartbeats 400000 in
theorem pjoined_nil (p : ByteArray) (vb : Nat) (w : World) : Calls Try.prog 90 #[.string p, .pointer (some ⟨vb, 0, none⟩), .slice none 0 0] w fun e w' => e = .returned (.pointer (some ⟨w.heap.size, 0, none⟩)) ∧ w' = w.alloc (.cells #[.string p, .pointer (some ⟨vb, 0, none⟩), .slice none 0 0, .int .i64 1] 103) := by
  go_enter Try.func90, Try.ntmps90
  go_wp2
  refine wp_loop_rounds 1 ?_
  rw [rounds_succ]
  go_wp2
  go_ret
  exact ⟨rfl, rfl⟩
set_option maxHeartbeats 400000 in
theorem pwith_nil (key : ByteArray) (vb : Nat) (w : World) : Calls Try.prog 84 #[.pointer none, .string key, .pointer (some ⟨vb, 0, none⟩)] w fun e w' => e = .returned (.pointer (some ⟨w.heap.size, 0, none⟩)) ∧ w' = w.alloc (.cells #[.string key, .pointer (some ⟨vb, 0, none⟩), .slice none 0 0, .int .i64 1] 103) := by
  go_enter Try.func84, Try.ntmps84
  go_wp2_with (go_at_call 90; refine (pjoined_nil _ _ _).mono ?_; rintro e w' ⟨rfl, rfl⟩)
  go_ret
  exact ⟨rfl, rfl⟩

/-- A leaf with a struct for its value. -/
structure PLeaf (w : World) (t vb : Nat) (key : ByteArray) (x y : Int) (s : ByteArray) : Prop where
  blk : w.heap[t]? = some (.cells #[.string key, .pointer (some ⟨vb, 0, none⟩), .slice none 0 0, .int .i64 1] 103 (0, 0))
  val : w.heap[vb]? = some (.cells #[.int .i64 x, .int .i64 y, .string s] 46 (0, 0))

set_option maxHeartbeats 400000 in
theorem pwithTree_nil (key : ByteArray) (x y : Int) (s : ByteArray) (w : World) : Calls Try.prog 49 #[.pointer none, .string key, pl x y s] w fun e w' => ∃ t vb, e = .returned (.pointer (some ⟨t, 0, none⟩)) ∧ w.heap.size ≤ t ∧ w.heap.size ≤ vb ∧ PLeaf w' t vb key x y s ∧ Below w.heap.size w w' := by
  unfold pl
  go_enter Try.func49, Try.ntmps49
  go_wp2_with (go_at_call 84; refine (pwith_nil _ _ _).mono ?_; rintro e w' ⟨rfl, rfl⟩)
  go_ret
  refine ⟨_, _, rfl, ?_, ?_, ⟨by have := heap_alloc_new (w.alloc (.cells #[.int .i64 x, .int .i64 y, .string s] 46)) (.cells #[.string key, .pointer (some ⟨w.heap.size, 0, none⟩), .slice none 0 0, .int .i64 1] 103); simpa using this, old_new _ _ _⟩, ((Below.refl _ _).alloc (Nat.le_refl _) _).alloc (by simp) _⟩
  · simp
  · simp

theorem pl_cells {w : World} {b : Nat} {x y : Int} {s : ByteArray} (h : w.heap[b]? = some (.cells #[.int .i64 x, .int .i64 y, .string s] 46 (0, 0))) : w.cell? ⟨b, 0, none⟩ = some (.int .i64 x) ∧ w.cell? ⟨b, 1, none⟩ = some (.int .i64 y) ∧ w.cell? ⟨b, 2, none⟩ = some (.string s) ∧ ∀ o, w.frozen? ⟨b, o, none⟩ = false := by
  simp [World.cell?, World.frozen?, h]
theorem PLeaf.cells {w : World} {t vb : Nat} {key : ByteArray} {x y : Int} {s : ByteArray} (h : PLeaf w t vb key x y s) : w.cell? ⟨t, 0, none⟩ = some (.string key) ∧ w.cell? ⟨t, 1, none⟩ = some (.pointer (some ⟨vb, 0, none⟩)) ∧ w.cell? ⟨t, 3, none⟩ = some (.int .i64 1) ∧ w.cell? ⟨vb, 0, none⟩ = some (.int .i64 x) ∧ w.cell? ⟨vb, 1, none⟩ = some (.int .i64 y) ∧ w.cell? ⟨vb, 2, none⟩ = some (.string s) := by
  simp [World.cell?, h.blk, h.val]
theorem PLeaf.later {w w' : World} {t vb : Nat} {key : ByteArray} {x y : Int} {s : ByteArray} (h : PLeaf w t vb key x y s) (hb : Below w.heap.size w w') : PLeaf w' t vb key x y s :=
  ⟨(hb.block t (idx_lt h.blk)).trans h.blk, (hb.block vb (idx_lt h.val)).trans h.val⟩
set_option maxHeartbeats 400000 in
theorem pown_some {w : World} {t vb : Nat} {key : ByteArray} {x y : Int} {s : ByteArray} (h : PLeaf w t vb key x y s) : Calls Try.prog 82 #[.pointer (some ⟨t, 0, none⟩)] w fun e w' => e = .returned (.tuple #[pl x y s, .bool true]) ∧ Below w.heap.size w w' := by
  have h1 := h.later (below_alloc w (.cells #[.int .i64 0, .int .i64 0, .string ⟨#[]⟩] 46))
  obtain ⟨c0, c1, c3, d0, d1, d2⟩ := h1.cells
  clear h1 h
  go_enter Try.func82, Try.ntmps82
  go_wp2
  exact bodyPost_ret (v := .tuple #[pl x y s, .bool true]) (by simp [results, Try.results82, go_sem, pl]) rfl ⟨rfl, (Below.refl _ _).alloc (Nat.le_refl _) _⟩
set_option maxRecDepth 100000 in
set_option maxHeartbeats 400000 in
theorem pget_leaf {w : World} {t vb : Nat} {key : ByteArray} {x y : Int} {s : ByteArray} (h : PLeaf w t vb key x y s) (hk : key.size ≤ 64) : Calls Try.prog 46 #[.pointer (some ⟨t, 0, none⟩), .string key] w fun e w' => e = .returned (.tuple #[pl x y s, .bool true]) ∧ Below w.heap.size w w' := by
  have h1 := h.later (below_alloc w (.cells #[.int .i64 0, .int .i64 0, .string ⟨#[]⟩] 46))
  obtain ⟨c0, c1, c3, d0, d1, d2⟩ := h1.cells
  have HP : Hid (∀ w1, Calls Try.prog 64 #[.string key, .string key] w1 fun e w' => e = .returned (.bool true) ∧ w' = w1) := fun w1 => (hasPrefix_any key key w1 (by unfold maxLen; omega) (by unfold maxLen; omega)).mono fun e w' he => ⟨by rw [he.1, show Lib.hasPrefix key.data.toList key.data.toList = true from List.isPrefixOf_iff_prefix.mpr (List.prefix_refl _)], he.2⟩
  have HO : Hid (Calls Try.prog 82 #[.pointer (some ⟨t, 0, none⟩)] (w.alloc (.cells #[.int .i64 0, .int .i64 0, .string ⟨#[]⟩] 46)) fun e w' => e = .returned (.tuple #[pl x y s, .bool true]) ∧ Below (w.alloc (.cells #[.int .i64 0, .int .i64 0, .string ⟨#[]⟩] 46)).heap.size (w.alloc (.cells #[.int .i64 0, .int .i64 0, .string ⟨#[]⟩] 46)) w') := pown_some h1
  clear h1 h
  go_enter Try.func46, Try.ntmps46
  go_wp2
  refine wp_loop_rounds 1 ?_
  rw [rounds_succ]
  go_wp2_with (first | (go_at_call 64; refine (HP.out _).mono ?_; rintro e w' ⟨rfl, rfl⟩) | (go_at_call 82; refine HO.out.mono ?_; rintro e w3 ⟨rfl, hb3⟩; have hr : w3.heap[w.heap.size]? = some (.cells #[.int .i64 0, .int .i64 0, .string ⟨#[]⟩] 46 (0, 0)) := (hb3.block _ (by simp)).trans (heap_alloc_new w _); obtain ⟨r0, r1, r2, fr⟩ := pl_cells hr; have HB : Hid (Below w.heap.size w w3) := (below_alloc w _).trans (hb3.mono (below_alloc w _).size); clear hb3 hr; unfold pl))
  refine bodyPost_ret (v := .tuple #[pl x y s, .bool true]) (by simp [results, Try.results46, go_sem, pl, r0, r1, r2]) rfl ⟨rfl, ?_⟩
  exact ((HB.out.setCell (by simp) _).setCell (by simp) _).setCell (by simp) _

theorem idx_cell' {w : World} {x : Nat} {tp : Option Addr} {ty : TypeId} (h : w.heap[x]? = some (.cells #[.pointer tp] ty (0, 0))) : w.cell? ⟨x, 0, none⟩ = some (.pointer tp) := by simp [World.cell?, h]
theorem idx_free' {w : World} {x : Nat} {tp : Option Addr} {ty : TypeId} (h : w.heap[x]? = some (.cells #[.pointer tp] ty (0, 0))) : w.frozen? ⟨x, 0, none⟩ = false := by simp [World.frozen?, h]
theorem set_cell_far {w : World} {x b o : Nat} {u v : Value} (hb : b ≠ x) (h : w.cell? ⟨b, o, none⟩ = some v) : (w.setCell ⟨x, 0, none⟩ u).cell? ⟨b, o, none⟩ = some v :=
  (World.cell?_of_block (w := w) (a := ⟨b, o, none⟩) (Below.heap_setCell _ _ _ _ hb)).trans h
theorem set_blk_far {w : World} {x b : Nat} {u : Value} {ob : Obj} (hb : b ≠ x) (h : w.heap[b]? = some ob) : (w.setCell ⟨x, 0, none⟩ u).heap[b]? = some ob := (Below.heap_setCell _ _ _ _ hb).trans h
theorem set_idx' {w : World} {x : Nat} {tp tq : Option Addr} {ty : TypeId} (h : w.heap[x]? = some (.cells #[.pointer tp] ty (0, 0))) : (w.setCell ⟨x, 0, none⟩ (.pointer tq)).heap[x]? = some (.cells #[.pointer tq] ty (0, 0)) := by
  simp only [World.setCell, Array.getElem?_modify, if_true, h, Option.map_some]
  simp
theorem set_three {w : World} {r k : Nat} {a b c : Value} {ob : Obj} (hk : k ≠ r) (h : w.heap[k]? = some ob) : (((w.setCell ⟨r, 0, none⟩ a).setCell ⟨r, 1, none⟩ b).setCell ⟨r, 2, none⟩ c).heap[k]? = some ob := by
  rw [Below.heap_setCell _ _ _ _ hk, Below.heap_setCell _ _ _ _ hk, Below.heap_setCell _ _ _ _ hk]; exact h
theorem But.three {x r : Nat} {w w' : World} {a b c : Value} (h : But x w w') (hr : w.heap.size ≤ r) : But x w (((w'.setCell ⟨r, 0, none⟩ a).setCell ⟨r, 1, none⟩ b).setCell ⟨r, 2, none⟩ c) :=
  ⟨h.os, h.tape, h.output, by simp [World.setCell]; exact h.size, fun k hk hx => by
    rw [Below.heap_setCell _ _ _ _ (by show k ≠ r; omega), Below.heap_setCell _ _ _ _ (by show k ≠ r; omega), Below.heap_setCell _ _ _ _ (by show k ≠ r; omega)]; exact h.block k hk hx⟩
theorem But.below {x B : Nat} {w w' : World} (h : But x w w') (hx : B ≤ x) (hB : B ≤ w.heap.size) : Below B w w' :=
  ⟨h.os, h.tape, h.output, h.size, fun k hk => h.block k (by omega) (by omega)⟩
theorem blk_later {w w' : World} {b : Nat} {ob : Obj} (hb : Below w.heap.size w w') (h : w.heap[b]? = some ob) : w'.heap[b]? = some ob := (hb.block b (idx_lt h)).trans h
set_option maxRecDepth 100000 in
set_option maxHeartbeats 1000000 in
theorem pput_first {w : World} {x : Nat} {key ps : ByteArray} {px py : Int} (hx : w.heap[x]? = some (.cells #[.pointer none] 98 (0, 0))) (hk : key.size ≤ 64) :
    Calls Try.prog 20 #[.pointer (some ⟨x, 0, none⟩), .string key, pl px py ps] w fun e w' => e = .returned (.tuple #[pl 0 0 ⟨#[]⟩, .bool false, .int .i64 0]) ∧ ∃ t vb, w'.heap[x]? = some (.cells #[.pointer (some ⟨t, 0, none⟩)] 98 (0, 0)) ∧ PLeaf w' t vb key px py ps ∧ But x w w' := by
  have hb3 : Below w.heap.size w (((w.alloc (.cells #[.int .i64 px, .int .i64 py, .string ps] 46)).alloc (.cells #[.int .i64 0, .int .i64 0, .string ⟨#[]⟩] 46)).alloc (.cells #[.int .i64 0, .int .i64 0, .string ⟨#[]⟩] 46)) := (((Below.refl _ _).alloc (Nat.le_refl _) _).alloc (by simp) _).alloc (by simp; omega) _
  have v3 : (((w.alloc (.cells #[.int .i64 px, .int .i64 py, .string ps] 46)).alloc (.cells #[.int .i64 0, .int .i64 0, .string ⟨#[]⟩] 46)).alloc (.cells #[.int .i64 0, .int .i64 0, .string ⟨#[]⟩] 46)).heap[w.heap.size]? = some (.cells #[.int .i64 px, .int .i64 py, .string ps] 46 (0, 0)) := by
    rw [Below.heap_alloc _ _ _ (by simp; omega)]; exact old_new _ _ _
  have r3 : (((w.alloc (.cells #[.int .i64 px, .int .i64 py, .string ps] 46)).alloc (.cells #[.int .i64 0, .int .i64 0, .string ⟨#[]⟩] 46)).alloc (.cells #[.int .i64 0, .int .i64 0, .string ⟨#[]⟩] 46)).heap[w.heap.size + 1]? = some (.cells #[.int .i64 0, .int .i64 0, .string ⟨#[]⟩] 46 (0, 0)) := by have := old_new (w.alloc (.cells #[.int .i64 px, .int .i64 py, .string ps] 46)) (.cells #[.int .i64 0, .int .i64 0, .string ⟨#[]⟩] 46) (.cells #[.int .i64 0, .int .i64 0, .string ⟨#[]⟩] 46); simpa using this
  have x3 := blk_later hb3 hx
  have HCl : Hid (Calls Try.prog 31 #[.string key] (((w.alloc (.cells #[.int .i64 px, .int .i64 py, .string ps] 46)).alloc (.cells #[.int .i64 0, .int .i64 0, .string ⟨#[]⟩] 46)).alloc (.cells #[.int .i64 0, .int .i64 0, .string ⟨#[]⟩] 46)) fun e w' => e = .returned (.string key) ∧ Below (((w.alloc (.cells #[.int .i64 px, .int .i64 py, .string ps] 46)).alloc (.cells #[.int .i64 0, .int .i64 0, .string ⟨#[]⟩] 46)).alloc (.cells #[.int .i64 0, .int .i64 0, .string ⟨#[]⟩] 46)).heap.size (((w.alloc (.cells #[.int .i64 px, .int .i64 py, .string ps] 46)).alloc (.cells #[.int .i64 0, .int .i64 0, .string ⟨#[]⟩] 46)).alloc (.cells #[.int .i64 0, .int .i64 0, .string ⟨#[]⟩] 46)) w') := clone_any key _ (by omega)
  have HF : Hid (Below w.heap.size w (((w.alloc (.cells #[.int .i64 px, .int .i64 py, .string ps] 46)).alloc (.cells #[.int .i64 0, .int .i64 0, .string ⟨#[]⟩] 46)).alloc (.cells #[.int .i64 0, .int .i64 0, .string ⟨#[]⟩] 46)) ∧ (((w.alloc (.cells #[.int .i64 px, .int .i64 py, .string ps] 46)).alloc (.cells #[.int .i64 0, .int .i64 0, .string ⟨#[]⟩] 46)).alloc (.cells #[.int .i64 0, .int .i64 0, .string ⟨#[]⟩] 46)).heap[w.heap.size]? = some (.cells #[.int .i64 px, .int .i64 py, .string ps] 46 (0, 0)) ∧ (((w.alloc (.cells #[.int .i64 px, .int .i64 py, .string ps] 46)).alloc (.cells #[.int .i64 0, .int .i64 0, .string ⟨#[]⟩] 46)).alloc (.cells #[.int .i64 0, .int .i64 0, .string ⟨#[]⟩] 46)).heap[w.heap.size + 1]? = some (.cells #[.int .i64 0, .int .i64 0, .string ⟨#[]⟩] 46 (0, 0)) ∧ (((w.alloc (.cells #[.int .i64 px, .int .i64 py, .string ps] 46)).alloc (.cells #[.int .i64 0, .int .i64 0, .string ⟨#[]⟩] 46)).alloc (.cells #[.int .i64 0, .int .i64 0, .string ⟨#[]⟩] 46)).heap[x]? = some (.cells #[.pointer none] 98 (0, 0))) := ⟨hb3, v3, r3, x3⟩
  have hxl := idx_lt hx
  clear hb3 v3 r3 x3 hx
  unfold pl
  go_enter Try.func20, Try.ntmps20
  go_wp2_with (go_at_call 31; refine HCl.out.mono ?_; rintro e w4 ⟨rfl, hb4⟩)
  refine wp_loop_rounds 1 ?_
  rw [rounds_succ]
  have x4 := blk_later hb4 HF.out.2.2.2
  go_wp2_with (first
    | (go_at_call 45; refine (pload_any (idx_cell' x4) (.inl rfl)).mono ?_; rintro e w' ⟨rfl, hw⟩; obtain rfl : w4 = w' := hw.symm)
    | (go_at_call 46; refine (pget_nil _ _).mono ?_; rintro e w5 ⟨rfl, hb5⟩; unfold pl)
    | (go_at_call 47; refine (psize_nil _).mono ?_; rintro e w' ⟨rfl, hw⟩; rw [hw]; clear hw))
  have hb6 : Below w5.heap.size w5 (w5.alloc (.cells #[.int .i64 0, .int .i64 0, .string ⟨#[]⟩] 46)) := below_alloc _ _
  have hb46 : Below w4.heap.size w4 (w5.alloc (.cells #[.int .i64 0, .int .i64 0, .string ⟨#[]⟩] 46)) := hb5.trans (hb6.mono hb5.size)
  have H6 : Hid (Below w.heap.size w (w5.alloc (.cells #[.int .i64 0, .int .i64 0, .string ⟨#[]⟩] 46)) ∧ (w5.alloc (.cells #[.int .i64 0, .int .i64 0, .string ⟨#[]⟩] 46)).heap[w.heap.size]? = some (.cells #[.int .i64 px, .int .i64 py, .string ps] 46 (0, 0)) ∧ (w5.alloc (.cells #[.int .i64 0, .int .i64 0, .string ⟨#[]⟩] 46)).heap[w.heap.size + 1]? = some (.cells #[.int .i64 0, .int .i64 0, .string ⟨#[]⟩] 46 (0, 0)) ∧ (w5.alloc (.cells #[.int .i64 0, .int .i64 0, .string ⟨#[]⟩] 46)).heap[x]? = some (.cells #[.pointer none] 98 (0, 0)) ∧ (w5.alloc (.cells #[.int .i64 0, .int .i64 0, .string ⟨#[]⟩] 46)).heap[w5.heap.size]? = some (.cells #[.int .i64 0, .int .i64 0, .string ⟨#[]⟩] 46 (0, 0))) :=
    ⟨HF.out.1.trans ((hb4.trans (hb46.mono hb4.size)).mono HF.out.1.size), blk_later hb46 (blk_later hb4 HF.out.2.1), blk_later hb46 (blk_later hb4 HF.out.2.2.1), blk_later hb46 x4, heap_alloc_new w5 _⟩
  have hw5 : w.heap.size + 1 < w5.heap.size := by
    have h1 := idx_lt (blk_later hb4 HF.out.2.2.1)
    have h2 := hb5.size
    omega
  obtain ⟨v0, v1, v2, _⟩ := pl_cells H6.out.2.1
  clear hb6 hb46 hb5 hb4 x4
  go_region_held3 (fun w' => w'.cell? ⟨w.heap.size, 0, none⟩ = some (.int .i64 px) ∧ w'.cell? ⟨w.heap.size, 1, none⟩ = some (.int .i64 py) ∧ w'.cell? ⟨w.heap.size, 2, none⟩ = some (.string ps)) (first
      | exact ⟨set_cell_far (by omega) (pl_cells (blk_later hb7 H6.out.2.1)).1, set_cell_far (by omega) (pl_cells (blk_later hb7 H6.out.2.1)).2.1, set_cell_far (by omega) (pl_cells (blk_later hb7 H6.out.2.1)).2.2.1⟩
      | exact ⟨(pl_cells (blk_later hb7 H6.out.2.1)).1, (pl_cells (blk_later hb7 H6.out.2.1)).2.1, (pl_cells (blk_later hb7 H6.out.2.1)).2.2.1⟩
      | go_keep)
    (first
      | (go_at_call 49; refine (pwithTree_nil key px py ps _).mono ?_; rintro e w7 ⟨t, vb, rfl, ht, hvb, hleaf, hb7⟩)
      | (go_at_call 48; refine (pcas_any (idx_cell' (blk_later hb7 H6.out.2.2.2.1)) (idx_free' (blk_later hb7 H6.out.2.2.2.1)) (.inl rfl) (.inr ⟨t, rfl, by simp [World.shape?, hleaf.blk]⟩)).mono ?_; rintro e w8 ⟨rfl, rfl⟩))
  have x7 := blk_later hb7 H6.out.2.2.2.1
  have r8 : (w7.setCell ⟨x, 0, none⟩ (.pointer (some ⟨t, 0, none⟩))).heap[w.heap.size + 1]? = some (.cells #[.int .i64 0, .int .i64 0, .string ⟨#[]⟩] 46 (0, 0)) := set_blk_far (by omega) (blk_later hb7 H6.out.2.2.1)
  have t8 : (w7.setCell ⟨x, 0, none⟩ (.pointer (some ⟨t, 0, none⟩))).heap[w5.heap.size]? = some (.cells #[.int .i64 0, .int .i64 0, .string ⟨#[]⟩] 46 (0, 0)) := set_blk_far (by omega) (blk_later hb7 H6.out.2.2.2.2)
  have x8 : (w7.setCell ⟨x, 0, none⟩ (.pointer (some ⟨t, 0, none⟩))).heap[x]? = some (.cells #[.pointer (some ⟨t, 0, none⟩)] 98 (0, 0)) := set_idx' x7
  have hle : w5.heap.size + 1 ≤ t ∧ w5.heap.size + 1 ≤ vb := by
    have : (w5.alloc (.cells #[.int .i64 0, .int .i64 0, .string ⟨#[]⟩] 46)).drew.heap.size = w5.heap.size + 1 := by show (w5.alloc _).heap.size = _; simp
    omega
  have HEnd : Hid ((w7.setCell ⟨x, 0, none⟩ (.pointer (some ⟨t, 0, none⟩))).heap[x]? = some (.cells #[.pointer (some ⟨t, 0, none⟩)] 98 (0, 0)) ∧ PLeaf (w7.setCell ⟨x, 0, none⟩ (.pointer (some ⟨t, 0, none⟩))) t vb key px py ps ∧ But x w (w7.setCell ⟨x, 0, none⟩ (.pointer (some ⟨t, 0, none⟩)))) :=
    ⟨x8, ⟨set_blk_far (by omega) hleaf.blk, set_blk_far (by omega) hleaf.val⟩, (But.of_below (H6.out.1.drew.trans (hb7.mono H6.out.1.size))).trans (But.set x w7 _)⟩
  obtain ⟨r0, r1, r2, fr⟩ := pl_cells r8
  obtain ⟨t0, t1, t2, _⟩ := pl_cells t8
  clear x7 r8 t8 x8 hleaf hb7
  generalize w7.setCell ⟨x, 0, none⟩ (.pointer (some ⟨t, 0, none⟩)) = w8 at *
  go_wp2
  refine bodyPost_ret (v := .tuple #[pl 0 0 ⟨#[]⟩, .bool false, .int .i64 0]) (by simp [results, Try.results20, go_sem, pl, r0, r1, r2]) rfl ⟨rfl, t, vb, ?_, ?_, ?_⟩
  · exact set_three (by omega) HEnd.out.1
  · exact ⟨set_three (by omega) HEnd.out.2.1.blk, set_three (by omega) HEnd.out.2.1.val⟩
  · exact HEnd.out.2.2.three (by omega)

set_option maxRecDepth 100000 in
set_option maxHeartbeats 400000 in
theorem pindexGet {w : World} {x t vb : Nat} {key s : ByteArray} {px py : Int} (hx : w.heap[x]? = some (.cells #[.pointer (some ⟨t, 0, none⟩)] 98 (0, 0))) (h : PLeaf w t vb key px py s) (hk : key.size ≤ 64) :
    Calls Try.prog 24 #[.pointer (some ⟨x, 0, none⟩), .string key] w fun e w' => e = .returned (.tuple #[pl px py s, .bool true]) ∧ Below w.heap.size w w' := by
  have hb := below_alloc w (.cells #[.int .i64 0, .int .i64 0, .string ⟨#[]⟩] 46)
  have h1 := h.later hb
  have HL : Hid (Calls Try.prog 45 #[.pointer (some ⟨x, 0, none⟩)] (w.alloc (.cells #[.int .i64 0, .int .i64 0, .string ⟨#[]⟩] 46)) fun e w' => e = .returned (.pointer (some ⟨t, 0, none⟩)) ∧ w' = w.alloc (.cells #[.int .i64 0, .int .i64 0, .string ⟨#[]⟩] 46)) := pload_any (idx_cell' (blk_later hb hx)) (.inr ⟨t, rfl, by simp [World.shape?, h1.blk]⟩)
  have HG : Hid (Calls Try.prog 46 #[.pointer (some ⟨t, 0, none⟩), .string key] (w.alloc (.cells #[.int .i64 0, .int .i64 0, .string ⟨#[]⟩] 46)) fun e w' => e = .returned (.tuple #[pl px py s, .bool true]) ∧ Below (w.alloc (.cells #[.int .i64 0, .int .i64 0, .string ⟨#[]⟩] 46)).heap.size (w.alloc (.cells #[.int .i64 0, .int .i64 0, .string ⟨#[]⟩] 46)) w') := pget_leaf h1 hk
  clear h1 h hx hb
  go_enter Try.func24, Try.ntmps24
  go_wp2_with (first | (go_at_call 45; refine HL.out.mono ?_; rintro e w' ⟨rfl, rfl⟩) | (go_at_call 46; refine HG.out.mono ?_; rintro e w3 ⟨rfl, hb3⟩; have hr : w3.heap[w.heap.size]? = some (.cells #[.int .i64 0, .int .i64 0, .string ⟨#[]⟩] 46 (0, 0)) := (hb3.block _ (by simp)).trans (heap_alloc_new w _); obtain ⟨r0, r1, r2, fr⟩ := pl_cells hr; have HB : Hid (Below w.heap.size w w3) := (below_alloc w _).trans (hb3.mono (below_alloc w _).size); clear hb3 hr; unfold pl))
  refine bodyPost_ret (v := .tuple #[pl px py s, .bool true]) (by simp [results, Try.results24, go_sem, pl, r0, r1, r2]) rfl ⟨rfl, ?_⟩
  exact ((HB.out.setCell (by simp) _).setCell (by simp) _).setCell (by simp) _
set_option maxRecDepth 100000 in
set_option maxHeartbeats 400000 in
theorem pindexLen {w : World} {x t vb : Nat} {key s : ByteArray} {px py : Int} (hx : w.heap[x]? = some (.cells #[.pointer (some ⟨t, 0, none⟩)] 98 (0, 0))) (h : PLeaf w t vb key px py s) :
    Calls Try.prog 23 #[.pointer (some ⟨x, 0, none⟩)] w fun e w' => e = .returned (.int .i64 1) ∧ w' = w := by
  have HL : Hid (Calls Try.prog 45 #[.pointer (some ⟨x, 0, none⟩)] w fun e w' => e = .returned (.pointer (some ⟨t, 0, none⟩)) ∧ w' = w) := pload_any (idx_cell' hx) (.inr ⟨t, rfl, by simp [World.shape?, h.blk]⟩)
  have HG : Hid (Calls Try.prog 47 #[.pointer (some ⟨t, 0, none⟩)] w fun e w' => e = .returned (.int .i64 1) ∧ w' = w) := psize_some t 1 w h.cells.2.2.1
  clear h hx
  go_enter Try.func23, Try.ntmps23
  go_wp2_with (first | (go_at_call 45; refine HL.out.mono ?_; rintro e w' ⟨rfl, rfl⟩) | (go_at_call 47; refine HG.out.mono ?_; rintro e w' ⟨rfl, rfl⟩))
  go_ret
  exact ⟨rfl, rfl⟩

set_option maxRecDepth 100000 in
set_option maxHeartbeats 1000000 in
theorem awake_any (w : World) : Calls Try.prog 8 #[] w fun e w' => e = .returned (.bool true) ∧ Below w.heap.size w w' := by
  have HPut : Hid (Calls Try.prog 20 #[.pointer (some ⟨w.heap.size, 0, none⟩), .string ⟨#[107]⟩, pl 1 0 ⟨#[97]⟩] (w.alloc (.cells #[.pointer none] 98)) fun e w' => e = .returned (.tuple #[pl 0 0 ⟨#[]⟩, .bool false, .int .i64 0]) ∧ ∃ t vb, w'.heap[w.heap.size]? = some (.cells #[.pointer (some ⟨t, 0, none⟩)] 98 (0, 0)) ∧ PLeaf w' t vb ⟨#[107]⟩ 1 0 ⟨#[97]⟩ ∧ But w.heap.size (w.alloc (.cells #[.pointer none] 98)) w') := pput_first (heap_alloc_new w _) (by decide)
  unfold pl at HPut
  go_enter Try.func8, Try.ntmps8
  go_wp2_with (first
    | (go_at_call 19; refine (pnew_any _).mono ?_; rintro e w' ⟨rfl, rfl⟩)
    | (go_at_call 20; refine HPut.out.mono ?_; rintro e w2 ⟨rfl, t, vb, hx2, hl2, hbut⟩)
    | (go_at_call 24; refine (pindexGet (blk_later (below_alloc w2 _) hx2) (hl2.later (below_alloc w2 _)) (by decide)).mono ?_; rintro e w3 ⟨rfl, hb3⟩; unfold pl; have z3 : w3.heap[w2.heap.size]? = some (.cells #[.int .i64 0, .int .i64 0, .string ⟨#[]⟩] 46 (0, 0)) := blk_later hb3 (heap_alloc_new w2 _); obtain ⟨c0, c1, c2, _⟩ := pl_cells z3; have y3 := fun ob => cell_later (below_alloc w3 ob) c0; have y4 := fun ob => cell_later (below_alloc w3 ob) c1; have y5 := fun ob => cell_later (below_alloc w3 ob) c2)
    | (go_at_call 23; refine (pindexLen (blk_later (below_alloc w3 _) (blk_later hb3 (blk_later (below_alloc w2 _) hx2))) ((hl2.later (below_alloc w2 _)).later hb3 |>.later (below_alloc w3 _))).mono ?_; rintro e w' ⟨rfl, rfl⟩))
  go_ret
  refine ⟨rfl, ?_⟩
  have b1 : Below w.heap.size w w2 := (below_alloc w _).trans (hbut.below (Nat.le_refl _) (below_alloc w _).size)
  have b2 : Below w.heap.size w w3 := b1.trans (((below_alloc w2 _).trans (hb3.mono (below_alloc w2 _).size)).mono b1.size)
  exact b2.alloc b2.size _

end Go.Proofs.Ytcgjppacnhmjlaa
end
