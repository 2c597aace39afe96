/- The document's own index: Delete. -/
import Derived.Test.YtcgjppacnhmjlaaGreatRefC
set_option linter.unusedVariables false
set_option linter.unusedSimpArgs false
namespace Go.Proofs.YtcgjppacnhmjlaaGreat
open Go.RowKit

def cutM (l : List KV) (q k : Nat) : List KV := (l.take q ++ l.drop (q + 1)).take k ++ l.drop k
theorem cutM_get (l : List KV) (q k t : Nat) (hq : q < l.length) (hk : k + 1 ≤ l.length) : (cutM l q k)[t]? = if t < k then (if t < q then l[t]? else l[t + 1]?) else l[t]? := by
  unfold cutM
  have hl : ((l.take q ++ l.drop (q + 1)).take k).length = k := by simp; omega
  by_cases h : t < k
  · rw [if_pos h, List.getElem?_append_left (by omega), List.getElem?_take, if_pos h, getElem?_cut l q t hq]
  · rw [if_neg h, List.getElem?_append_right (by omega), hl, List.getElem?_drop]
    congr 1; omega
theorem cutM_len (l : List KV) (q k : Nat) (hq : q < l.length) (hk : k + 1 ≤ l.length) : (cutM l q k).length = l.length := by
  unfold cutM; simp; omega
theorem cutM_start (l : List KV) (q : Nat) (hq : q < l.length) : cutM l q q = l := by
  apply List.ext_getElem?
  intro t
  rw [cutM_get l q q t hq (by omega)]
  split
  · rfl
  · rfl
theorem cutM_step (l : List KV) (q k : Nat) (e : KV) (hq : q < l.length) (hqk : q ≤ k) (hk : k + 1 < l.length) (he : l[k + 1]? = some e) : (cutM l q k).set k e = cutM l q (k + 1) := by
  apply List.ext_getElem?
  intro t
  rw [List.getElem?_set, cutM_get l q k t hq (by omega), cutM_get l q (k + 1) t hq (by omega), cutM_len l q k hq (by omega)]
  by_cases h1 : k = t
  · subst h1
    rw [if_pos rfl, if_pos (by omega), if_pos (by omega), if_neg (by omega)]
    exact he.symm
  · rw [if_neg h1]
    by_cases h2 : t < k
    · simp only [h2, show t < k + 1 by omega, if_true]
    · simp only [h2, show ¬ t < k + 1 by omega, if_false]
theorem cutM_end (l : List KV) (q : Nat) (hq : q < l.length) : (cutM l q (l.length - 1)).take (l.length - 1) = l.take q ++ l.drop (q + 1) := by
  unfold cutM
  have hl : (l.take q ++ l.drop (q + 1)).length = l.length - 1 := by simp; omega
  rw [List.take_of_length_le (l := l.take q ++ l.drop (q + 1)) (by omega), List.take_append_of_le_length (by omega), List.take_of_length_le (by omega)]
theorem flat_take : ∀ (l : List KV) (i : Nat), flat (l.take i) = (flat l).take (i * 2)
  | [], i => by simp [flat]
  | a :: l, 0 => by simp [flat]
  | a :: l, i + 1 => by
    have h := flat_take l i
    have e1 : (i + 1) * 2 = i * 2 + 1 + 1 := by omega
    rw [e1]
    simpa [flat] using h
/-- The list cut shorter. -/
theorem Raw.cut {r : Nat} {go : Option Nat} {w wr : World} {g cap n : Nat} {M : List KV} (h : Raw r go w g cap n M wr) (m : Nat) (hm : m ≤ n) : Raw r go w g cap m (M.take m) (wr.setCell ⟨r, 0, none⟩ (.slice (some ⟨g, 0, none⟩) m cap)) := by
  have hl := h.len
  refine ⟨by rw [List.length_take]; omega, ?_, ?_, h.ne, ?_, h.new⟩
  · simp only [World.setCell, Array.getElem?_modify, if_true, h.blk, Option.map_some]
    simp
  · refine ownsRow_setCell_other ?_ (by simp [Value.ownBlock]; exact h.ne) _
    obtain ⟨h0, h1 | ⟨g', cap', cur, h1, h2, h3, h4, h5, h6, h7⟩⟩ := h.row
    · cases h1.1
    · cases h1
      refine ⟨by rw [flat_len, List.length_take]; congr 1; omega, .inr ⟨g, cap, cur, rfl, h2, h3, by omega, h5, h6, ?_⟩⟩
      rw [flat_take, ← h7, List.take_take]
      congr 1; omega
  · refine ⟨h.but.os, h.but.tape, h.but.output, by have := h.but.size; simp [World.setCell]; omega, fun k hk h1 h2 => ?_⟩
    rw [Below.heap_setCell _ _ _ _ h1]
    exact h.but.block k hk h1 h2
theorem Raw.rfree {r : Nat} {go : Option Nat} {w wr : World} {g cap n : Nat} {M : List KV} (h : Raw r go w g cap n M wr) : wr.frozen? ⟨r, 0, none⟩ = false := by simp [World.frozen?, h.blk]
theorem keys64_del {k : List UInt8} {l : List KV} (h : Keys64 l) : Keys64 (del k l) := fun e he => h e (mem_del.mp he).1

set_option maxRecDepth 100000 in
set_option maxHeartbeats 400000 in
theorem rdel_none {w : World} {r : Nat} {av : Value} {l : List KV} (h : RefAt w r av l) (key : ByteArray) (hk : key.size ≤ 9223372036854775807) (hu : lk key.data.toList l = none) :
    Calls Tryz.prog 56 #[.pointer (some ⟨r, 0, none⟩), .string key] w fun e w' => e = .returned (.tuple #[.int .i64 0, .bool false]) ∧ ∃ n, w' = w.drewN n := by
  have HPl : Hid (Calls Tryz.prog 41 #[.pointer (some ⟨r, 0, none⟩), .string key] w fun e w' => e = .returned (.tuple #[.int .i64 (rpos key.data.toList l), .bool (foundB key.data.toList l)]) ∧ ∃ n, w' = w.drewN n) := rplace_any h key (by omega)
  have ef : foundB key.data.toList l = false := by unfold foundB; rw [hu]; rfl
  rw [ef] at HPl
  clear h hu ef
  go_enter Tryz.func56, Tryz.ntmps56
  go_wp2_with (go_at_call 41; refine HPl.out.mono ?_; rintro e w' ⟨rfl, n, rfl⟩)
  go_ret2
  exact ⟨rfl, _, rfl⟩

set_option maxRecDepth 100000 in
set_option maxHeartbeats 2000000 in
theorem rdel_some {w : World} {r : Nat} {av : Value} {l : List KV} (h : RefAt w r av l) (key : ByteArray) (hk : key.size ≤ 9223372036854775807) {u : Int} (hu : lk key.data.toList l = some u) :
    Calls Tryz.prog 56 #[.pointer (some ⟨r, 0, none⟩), .string key] w fun e w' => e = .returned (.tuple #[.int .i64 u, .bool true]) ∧ ∃ av', RefAt w' r av' (del key.data.toList l) ∧ ButR r av.ownBlock w w' ∧ (av'.ownBlock = av.ownBlock ∨ ∃ g, av'.ownBlock = some g ∧ w.heap.size ≤ g) := by
  have HPl : Hid (Calls Tryz.prog 41 #[.pointer (some ⟨r, 0, none⟩), .string key] w fun e w' => e = .returned (.tuple #[.int .i64 (rpos key.data.toList l), .bool (foundB key.data.toList l)]) ∧ ∃ n, w' = w.drewN n) := rplace_any h key (by omega)
  have ef : foundB key.data.toList l = true := by unfold foundB; rw [hu]; rfl
  rw [ef] at HPl
  have hfew := h.few
  have hpair := found_pair h.srt hu
  have hlt := (List.getElem?_eq_some_iff.mp hpair).1
  rcases h.cases with ⟨rfl, rfl⟩ | ⟨g, cap, rfl, hp, hcap⟩
  · simp at hlt
  have HDel : Hid ((cutM l (rpos key.data.toList l) (l.length - 1)).take (l.length - 1) = del key.data.toList l) := by
    have := cutM_end l _ hlt
    rw [del_cut h.srt hpair] at this
    exact this
  have HEnd : Hid (∀ wr n, Raw r (some g) w g cap n (del key.data.toList l) wr → ∃ av', RefAt wr r av' (del key.data.toList l) ∧ ButR r (Value.slice (some ⟨g, 0, none⟩) l.length cap).ownBlock w wr ∧ (av'.ownBlock = (Value.slice (some ⟨g, 0, none⟩) l.length cap).ownBlock ∨ ∃ g, av'.ownBlock = some g ∧ w.heap.size ≤ g)) := fun wr n hw => raw_end hw (srt_del h.srt) (keys64_del h.short) (Nat.le_trans (List.length_filter_le _ _) hfew)
  obtain ⟨hc1, hc2⟩ := hp _ _ hpair
  have HR : Hid (Raw r (some g) w g cap l.length l w) := h.raw
  have hr := h.cell
  clear h hu ef hp hpair
  generalize rpos key.data.toList l = q at *
  go_enter Tryz.func56, Tryz.ntmps56
  go_wp2_with (go_at_call 41; refine HPl.out.mono ?_; rintro e w' ⟨rfl, n, rfl⟩)
  go_loopg [9] l.length (fun gk s9 wr => ∃ k : Nat, s9 = .int .i64 k ∧ q ≤ k ∧ k + 1 ≤ l.length ∧ l.length ≤ gk + k ∧ Hid (Raw r (some g) w g cap l.length (cutM l q k) wr))
  case atStart => exact ⟨q, rfl, Nat.le_refl _, hlt, by omega, by rw [cutM_start l q hlt]; exact HR.out.drewN n⟩
  case round =>
    clear HR hr hc1 hc2
    obtain ⟨k, rfl, hqk, hkl, hgk, HW⟩ := hrel
    have hc := HW.out.cell
    by_cases hl2 : k + 1 < l.length
    · obtain ⟨e, he⟩ : ∃ e, l[k + 1]? = some e := ⟨l[k + 1]'(by omega), List.getElem?_eq_getElem _⟩
      have he2 : (cutM l q k)[k + 1]? = some e := by rw [cutM_get _ _ _ _ hlt hkl, if_neg (by omega)]; exact he
      obtain ⟨hc1, hc2⟩ := HW.out.at he2
      obtain ⟨e', he3⟩ : ∃ e', (cutM l q k)[k]? = some e' := ⟨_, List.getElem?_eq_getElem (by rw [cutM_len _ _ _ hlt hkl]; omega)⟩
      obtain ⟨hd1, hd2⟩ := HW.out.at he3
      have hfz := HW.out.free
      have HN : Hid (Raw r (some g) w g cap l.length (cutM l q (k + 1)) ((wr.setCell ⟨g, k * 2, none⟩ (.string (keyOf e))).setCell ⟨g, k * 2 + 1, none⟩ (.int .i64 e.2))) := by
        rw [← cutM_step l q k e hlt hqk hl2 he]; exact HW.out.set k e
      clear he he2 he3
      go_wp2
      go_region
      go_wp2
      go_roundg (gk - 1)
      case measure => omega
      case rel => exact ⟨k + 1, by go_num, by omega, by omega, by omega, HN.out.drew⟩
    · have ek : k = l.length - 1 := by omega
      have hfz := HW.out.rfree
      have hw1 : IntKind.i64.wrap ((l.length : Int) - 1) = (k : Int) := by rw [IntKind.wrap_i64]; omega
      have hb1 : (0 : Int) ≤ (k : Int) := by omega
      have hb2 : (k : Int) ≤ (cap : Int) := by omega
      have HN : Hid (Raw r (some g) w g cap (l.length - 1) (del key.data.toList l) (wr.setCell ⟨r, 0, none⟩ (.slice (some ⟨g, 0, none⟩) (l.length - 1) cap))) := by
        have := HW.out.cut k (by omega)
        rw [ek] at this
        rw [HDel.out] at this
        exact this
      clear HDel
      go_wp2
      go_region
      go_wp2
      go_ret2
      exact ⟨rfl, HEnd.out _ _ HN.out.drew⟩

end Go.Proofs.YtcgjppacnhmjlaaGreat
