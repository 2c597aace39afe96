/- short: keys, cut to what a key may have. -/
import Derived.Test.YtcgjppacnhmjlaaIndexB
import Derived.OwnWalk
set_option linter.unusedVariables false
set_option linter.unusedSimpArgs false
namespace Go.Proofs.Ytcgjppacnhmjlaa
open Go.RowKit

/-- A list of texts that lies in memory. -/
def StrsAt (w : World) (v : Value) (ss : List ByteArray) : Prop :=
  (ss = [] ∧ ∃ ao c, v = .slice ao 0 c) ∨ ∃ k o c, v = .slice (some ⟨k, o, none⟩) ss.length c ∧ ∀ (i : Nat) s, ss[i]? = some s → w.cell? ⟨k, o + i, none⟩ = some (.string s)

def cut64 (s : ByteArray) : ByteArray := if 64 < s.size then s.extract 0 64 else s
def shortOf (ss : List ByteArray) : List ByteArray := (ss.take 300).map cut64
theorem cut64_size (s : ByteArray) : (cut64 s).size ≤ 64 := by
  unfold cut64; split
  · simp; omega
  · omega
theorem shortOf_len (ss : List ByteArray) : (shortOf ss).length = min 300 ss.length := by simp [shortOf]
theorem infoS : (Try.prog.info? 9).map (fun i => (i.zero, i.size, i.bytes)) = some (some (.string ⟨#[]⟩), 1, 16) := by kernel_rfl

theorem strs_take_succ (ss : List ByteArray) (j : Nat) (s : ByteArray) (h : ss[j]? = some s) : (ss.take (j + 1)).map Value.string = (ss.take j).map Value.string ++ [.string s] := by
  rw [List.take_add_one, h]; simp

set_option maxRecDepth 100000 in
set_option maxHeartbeats 1000000 in
theorem short_some (k o c : Nat) (ss : List ByteArray) (w : World) (hc : ∀ (i : Nat) s, ss[i]? = some s → w.cell? ⟨k, o + i, none⟩ = some (.string s)) (hlen : ss.length ≤ 9223372036854775807) (hsz : ∀ s ∈ ss, s.size ≤ 9223372036854775807) :
    Calls Try.prog 9 #[.slice (some ⟨k, o, none⟩) ss.length c] w fun e w' => ∃ v, e = .returned v ∧ w'.ownsRow w.heap.size 9 1 v (shortOf ss).length ((shortOf ss).map Value.string) ∧ Below w.heap.size w w' := by
  obtain ⟨i0, hi0, hz0, hz1, hz2⟩ := info_parts infoS
  have HC : Hid (∀ (i : Nat) s, ss[i]? = some s → w.cell? ⟨k, o + i, none⟩ = some (.string s)) := hc
  have HZ : Hid (∀ s ∈ ss, s.size ≤ 9223372036854775807) := hsz
  clear hc hsz
  go_enter Try.func9, Try.ntmps9
  go_wp2
  go_loopg [3, 4] ss.length (fun gk v i wr => ∃ j : Nat, j ≤ ss.length ∧ j ≤ 300 ∧ gk + j = ss.length ∧ i = .int .i64 j ∧ Hid (wr.ownsRow w.heap.size 9 1 v j (((shortOf ss).take j).map Value.string)) ∧ Hid (Below w.heap.size w wr))
  case atStart => exact ⟨0, Nat.zero_le _, by omega, by omega, rfl, World.ownsRow_nil _ _ _ _, Below.refl _ _⟩
  case round =>
    obtain ⟨j, hj, hj2, hg, rfl, HO, HB⟩ := hrel
    by_cases h1 : j < ss.length
    · by_cases h2 : j < 300
      · obtain ⟨s, hs⟩ : ∃ s, ss[j]? = some s := ⟨ss[j], List.getElem?_eq_getElem h1⟩
        have hcell := cell_later HB.out (HC.out j s hs)
        have hss := HZ.out s (List.mem_of_getElem? hs)
        have hcut : (shortOf ss)[j]? = some (cut64 s) := by simp [shortOf, List.getElem?_take, h2, hs]
        have HT : Hid (((shortOf ss).take (j + 1)).map Value.string = ((shortOf ss).take j).map Value.string ++ [.string (cut64 s)]) := strs_take_succ _ _ _ hcut
        clear hs hcut
        by_cases h3 : 64 < s.size
        · have hce : cut64 s = s.extract 0 64 := if_pos h3
          rw [hce] at HT
          clear hce
          go_wp2_with (at_builtin; refine wpList_append_lies _ rfl _ _ _ rfl w.heap.size 9 i0 (.string ⟨#[]⟩) 1 16 Try.underlying22 hi0 hz0 hz1 hz2 rfl (by omega) _ j _ rfl (HO.out.alloc _) ⟨wr.heap.size, 0, none⟩ 1 1 [.string (s.extract 0 64)] rfl rfl (World.news_of_block (cs := #[.string (s.extract 0 64)]) (t := 9) (fr := (0, 0)) (heap_alloc_new wr _)) (by simp [Value.oneCell']) (by omega) (by unfold maxLen; omega) (by omega) (by have := HB.out.size; simp; omega) _ rfl ?_; intro g cap w1 hown1 hgrow1 hat1 hlt1)
          go_roundg (gk - 1)
          case measure => omega
          case rel => exact ⟨j + 1, by omega, by omega, by omega, by go_num, by rw [HT.out]; exact hown1, Below.grown (HB.out.alloc HB.out.size _) hgrow1 (by have := HB.out.size; simp; omega) (fun _ hk => ownBlock_ge HO.out hk)⟩
        · have hce : cut64 s = s := if_neg h3
          rw [hce] at HT
          clear hce
          go_wp2_with (at_builtin; refine wpList_append_lies _ rfl _ _ _ rfl w.heap.size 9 i0 (.string ⟨#[]⟩) 1 16 Try.underlying22 hi0 hz0 hz1 hz2 rfl (by omega) _ j _ rfl (HO.out.alloc _) ⟨wr.heap.size, 0, none⟩ 1 1 [.string (s)] rfl rfl (World.news_of_block (cs := #[.string (s)]) (t := 9) (fr := (0, 0)) (heap_alloc_new wr _)) (by simp [Value.oneCell']) (by omega) (by unfold maxLen; omega) (by omega) (by have := HB.out.size; simp; omega) _ rfl ?_; intro g cap w1 hown1 hgrow1 hat1 hlt1)
          go_roundg (gk - 1)
          case measure => omega
          case rel => exact ⟨j + 1, by omega, by omega, by omega, by go_num, by rw [HT.out]; exact hown1, Below.grown (HB.out.alloc HB.out.size _) hgrow1 (by have := HB.out.size; simp; omega) (fun _ hk => ownBlock_ge HO.out hk)⟩
      · have hj3 : j = 300 := by omega
        have HE : Hid ((shortOf ss).length = j ∧ (shortOf ss).take j = shortOf ss) := by
          have : (shortOf ss).length = j := by rw [shortOf_len]; omega
          exact ⟨this, List.take_of_length_le (by omega)⟩
        go_wp2
        go_ret
        exact ⟨_, rfl, by rw [HE.out.1]; have := HO.out; rw [HE.out.2] at this; exact this, HB.out⟩
    · have HE : Hid ((shortOf ss).length = j ∧ (shortOf ss).take j = shortOf ss) := by
        have : (shortOf ss).length = j := by rw [shortOf_len]; omega
        exact ⟨this, List.take_of_length_le (by omega)⟩
      go_wp2
      go_ret
      exact ⟨_, rfl, by rw [HE.out.1]; have := HO.out; rw [HE.out.2] at this; exact this, HB.out⟩

theorem short_nil (ao : Option Addr) (c : Nat) (w : World) : Calls Try.prog 9 #[.slice ao 0 c] w fun e w' => e = .returned (.slice none 0 0) ∧ w' = w := by
  go_enter Try.func9, Try.ntmps9
  go_wp2
  refine wp_loop_rounds 1 ?_
  rw [rounds_succ]
  go_wp2
  go_ret
  exact ⟨rfl, rfl⟩

/-- The texts that a row of the call's own holds. -/
theorem strs_of_own {w : World} {base : Nat} {v : Value} {ss : List ByteArray} (h : w.ownsRow base 9 1 v ss.length (ss.map Value.string)) : (ss = [] ∧ v = .slice none 0 0) ∨ ∃ k c, base ≤ k ∧ k < w.heap.size ∧ v = .slice (some ⟨k, 0, none⟩) ss.length c ∧ ∀ (i : Nat) s, ss[i]? = some s → w.cell? ⟨k, i, none⟩ = some (.string s) := by
  rcases h.2 with ⟨h1, h2⟩ | ⟨g, cap, cur, h3, h4, h5, h6, h7, h8, h9⟩
  · exact .inl ⟨List.length_eq_zero_iff.mp h2, h1⟩
  · refine .inr ⟨g, cap, h4, (Array.getElem?_eq_some_iff.mp h5).1, h3, fun i s hs => ?_⟩
    have hi : i < ss.length := (List.getElem?_eq_some_iff.mp hs).1
    have h10 : cur.toList[i]? = some (.string s) := by
      have : (cur.toList.take (ss.length * 1))[i]? = some (.string s) := by rw [h9, List.getElem?_map, hs]; rfl
      rwa [List.getElem?_take, if_pos (by omega)] at this
    simp only [World.cell?, h5]
    rw [← Array.getElem?_toList, h10]; rfl
/-- short answers the texts, cut. -/
theorem short_any {w : World} {v : Value} {ss : List ByteArray} (h : StrsAt w v ss) (hlen : ss.length ≤ 9223372036854775807) (hsz : ∀ s ∈ ss, s.size ≤ 9223372036854775807) :
    Calls Try.prog 9 #[v] w fun e w' => ∃ v', e = .returned v' ∧ ((shortOf ss = [] ∧ v' = .slice none 0 0) ∨ ∃ k c, w.heap.size ≤ k ∧ k < w'.heap.size ∧ v' = .slice (some ⟨k, 0, none⟩) (shortOf ss).length c ∧ ∀ (i : Nat) s, (shortOf ss)[i]? = some s → w'.cell? ⟨k, i, none⟩ = some (.string s)) ∧ Below w.heap.size w w' := by
  rcases h with ⟨rfl, ao, c, rfl⟩ | ⟨k, o, c, rfl, hc⟩
  · refine (short_nil ao c w).mono ?_
    rintro e w' ⟨rfl, rfl⟩
    exact ⟨_, rfl, .inl ⟨rfl, rfl⟩, Below.refl _ _⟩
  · refine (short_some k o c ss w hc hlen hsz).mono ?_
    rintro e w' ⟨v, rfl, h1, h2⟩
    exact ⟨v, rfl, strs_of_own h1, h2⟩

end Go.Proofs.Ytcgjppacnhmjlaa
