/- Going through: walkAll and walkBehind, where Walk does what it must at each branch. -/
import Derived.Test.YtcgjppacnhmjlaaGreatGet
import Derived.Test.YtcgjppacnhmjlaaGreatWalkP
set_option linter.unusedVariables false
set_option linter.unusedSimpArgs false
namespace Go.Proofs.YtcgjppacnhmjlaaGreat
open Go.RowKit
attribute [local go_sem ↓] Go.wp_at_zero Go.wp_at_succ

/-- What going through the pairs l from a world on comes to: all of the range have come; or a round has said no more. -/
def WalkR {α : Type} (S : Nat → Prop) (J Jx : List α → World → Prop) (to : List UInt8) (l : List KV) (pre ys : List α) (W : World) (e : Ending) (W' : World) : Prop :=
  (∃ b, e = .returned (.bool b) ∧ J (pre ++ ys) W' ∧ Kept S W W' ∧ (b = false → Past to l)) ∨ (e = .returned (.bool false) ∧ ∃ q, q <+: ys ∧ Jx (pre ++ q) W')
theorem Kept.trans {S : Nat → Prop} {a b c : World} (h : Kept S a b) (k : Kept S b c) : Kept S a c := fun x hx => (k x hx).trans (h x hx)
theorem Kept.refl (S : Nat → Prop) (a : World) : Kept S a a := fun _ _ => rfl

/-- Walk's contract at trees of at most n levels. -/
def WalkOk {α : Type} (S : Nat → Prop) (J Jx : List α → World → Prop) (val : α → KV) (fr to : ByteArray) (lb N n : Nat) : Prop :=
  ∀ (W : World) (t : Nat) (l : List KV) (pre ys : List α), RepN S n W t l → J pre W → pre.length + ys.length ≤ N → ys.map val = rng fr.data.toList to.data.toList l →
    Calls Tryz.prog 43 #[.pointer (some ⟨t, 0, none⟩), .string fr, .string to, .func (.yield lb) #[] #[]] W (WalkR S J Jx to.data.toList l pre ys W)

section
variable {α : Type} {S : Nat → Prop} {J Jx : List α → World → Prop} {val : α → KV} {fr to : ByteArray} {lb N n : Nat}
theorem walkAll_nil (W : World) (o : Option Addr) (cap : Nat) (pre : List α) (hJ : J pre W) :
    Calls Tryz.prog 62 #[.slice o 0 cap, .string fr, .string to, .func (.yield lb) #[] #[]] W (WalkR S J Jx to.data.toList [] pre [] W) := by
  have HJ : Hid (J pre W) := hJ
  clear hJ
  go_enter Tryz.func62, Tryz.ntmps62
  go_wp2
  go_loopg [13] 0 (fun gk s13 wr => s13 = .int .i64 0 ∧ wr = W)
  case atStart => exact ⟨rfl, rfl⟩
  case round =>
    obtain ⟨rfl, rfl⟩ := hrel
    go_wp2
    go_ret
    exact .inl ⟨true, rfl, by simpa using HJ.out, Kept.refl _ _, fun h => by cases h⟩

set_option maxRecDepth 100000 in
set_option maxHeartbeats 1000000 in
theorem walkAll_some (hW : WalkOk S J Jx val fr to lb N n) {W : World} {k o cap : Nat} {cs : List Nat} {gs : List (List KV)} {pre ys : List α} (hk : S k) (hBr : BrAt W k o cs) (hlen : cs.length ≤ 256) (hl : cs.length = gs.length)
    (hC : ∀ (i c : Nat) g, cs[i]? = some c → gs[i]? = some g → RepN S n W c g) (hs : Srt gs.flatten) (hJ : J pre W) (hN : pre.length + ys.length ≤ N) (hy : ys.map val = rng fr.data.toList to.data.toList gs.flatten) :
    Calls Tryz.prog 62 #[.slice (some ⟨k, o, none⟩) cs.length cap, .string fr, .string to, .func (.yield lb) #[] #[]] W (WalkR S J Jx to.data.toList gs.flatten pre ys W) := by
  have H0 : Hid (J pre W ∧ ys.map val = rng fr.data.toList to.data.toList gs.flatten ∧ BrAt W k o cs ∧ (∀ (i c : Nat) g, cs[i]? = some c → gs[i]? = some g → RepN S n W c g) ∧ Srt gs.flatten ∧ S k ∧ WalkOk S J Jx val fr to lb N n) := ⟨hJ, hy, hBr, hC, hs, hk, hW⟩
  have HL : Hid (cs.length = gs.length) := hl
  clear hJ hy hBr hC hs hk hW hl
  go_enter Tryz.func62, Tryz.ntmps62
  go_wp2
  go_loopg [13] cs.length (fun gk s13 wr => ∃ (i : Nat) (y1 y2 : List α), s13 = .int .i64 i ∧ i ≤ cs.length ∧ gk = cs.length - i ∧ Hid (ys = y1 ++ y2 ∧ y1.map val = rng fr.data.toList to.data.toList (gs.take i).flatten ∧ y2.map val = rng fr.data.toList to.data.toList (gs.drop i).flatten ∧ J (pre ++ y1) wr ∧ Kept S W wr))
  case atStart => exact ⟨0, [], ys, rfl, by omega, rfl, rfl, by simp [rng], by simpa using H0.out.2.1, by simpa using H0.out.1, Kept.refl _ _⟩
  case round =>
    obtain ⟨i, y1, y2, rfl, hi, rfl, HR⟩ := hrel
    by_cases hlt : i < cs.length
    · obtain ⟨c, hc⟩ : ∃ c, cs[i]? = some c := ⟨cs[i], List.getElem?_eq_getElem hlt⟩
      obtain ⟨g, hg⟩ : ∃ g, gs[i]? = some g := ⟨gs[i]'(by have := HL.out; omega), List.getElem?_eq_getElem _⟩
      have hltI : (i : Int) < (cs.length : Int) := by omega
      have hcell : wr.cell? ⟨k, o + i, none⟩ = some (.pointer (some ⟨c, 0, none⟩)) := HR.out.2.2.2.2.cell H0.out.2.2.2.2.2.1 (H0.out.2.2.1 i c hc)
      obtain ⟨z1, z2, HZ⟩ : ∃ z1 z2, Hid (y2 = z1 ++ z2 ∧ z1.map val = rng fr.data.toList to.data.toList g ∧ z2.map val = rng fr.data.toList to.data.toList (gs.drop (i + 1)).flatten) := by
        have h := HR.out.2.2.1
        rw [drop_flat gs i g hg, rng_app] at h
        obtain ⟨z1, z2, h1, h2, h3⟩ := map_split h
        exact ⟨z1, z2, h1, h2, h3⟩
      have HWc : Hid (Calls Tryz.prog 43 #[.pointer (some ⟨c, 0, none⟩), .string fr, .string to, .func (.yield lb) #[] #[]] wr fun e W' => (e = .returned (.bool true) ∧ J (pre ++ (y1 ++ z1)) W' ∧ Kept S W W') ∨ (e = .returned (.bool false) ∧ WalkR S J Jx to.data.toList gs.flatten pre ys W (.returned (.bool false)) W')) := by
        have hys : ys = y1 ++ (z1 ++ z2) := by rw [← HZ.out.1]; exact HR.out.1
        have hlen2 : (pre ++ y1).length + z1.length ≤ N := by
          have := congrArg List.length hys
          simp at this ⊢; omega
        refine (H0.out.2.2.2.2.2.2 wr c g (pre ++ y1) z1 ((H0.out.2.2.2.1 i c g hc hg).frame HR.out.2.2.2.2) HR.out.2.2.2.1 hlen2 HZ.out.2.1).mono ?_
        rintro e W' (⟨b, rfl, h1, h2, h3⟩ | ⟨rfl, q, h1, h2⟩)
        · cases b with
          | true => exact .inl ⟨rfl, by simpa using h1, HR.out.2.2.2.2.trans h2⟩
          | false =>
            refine .inr ⟨rfl, .inl ⟨false, rfl, ?_, HR.out.2.2.2.2.trans h2, fun _ => ?_⟩⟩
            · have hz2 : z2 = [] := by
                have hp := h3 rfl
                have hsrt : Srt (g ++ (gs.drop (i + 1)).flatten) := by
                  rw [← drop_flat gs i g hg]
                  have h := H0.out.2.2.2.2.1
                  rw [← List.take_append_drop i gs, List.flatten_append] at h
                  exact (List.pairwise_append.mp h).2.1
                have := hp.rest (fr := fr.data.toList) hsrt
                have h4 := HZ.out.2.2
                rw [this] at h4
                exact List.map_eq_nil_iff.mp h4
              rw [hys, hz2]; simpa using h1
            · have hp := h3 rfl
              refine ⟨hp.1, ?_⟩
              obtain ⟨x, hx1, hx2⟩ := hp.2
              exact ⟨x, mem_flat.mpr ⟨i, g, hg, hx1⟩, hx2⟩
        · refine .inr ⟨rfl, .inr ⟨rfl, y1 ++ q, ?_, by simpa using h2⟩⟩
          rw [hys]
          obtain ⟨r, hr⟩ := h1
          exact ⟨r ++ z2, by rw [← hr]; simp⟩
      have HN : Hid (ys = (y1 ++ z1) ++ z2 ∧ (y1 ++ z1).map val = rng fr.data.toList to.data.toList (gs.take (i + 1)).flatten ∧ z2.map val = rng fr.data.toList to.data.toList (gs.drop (i + 1)).flatten) := by
        refine ⟨by rw [HR.out.1, HZ.out.1]; simp, ?_, HZ.out.2.2⟩
        rw [List.map_append, HR.out.2.1, HZ.out.2.1, List.take_add_one, hg]
        simp [rng_app]
      clear hc hg
      go_wp2_with (go_at_call 43; refine HWc.out.mono ?_; rintro e w' (⟨rfl, hJ1, hK1⟩ | ⟨rfl, hE⟩))
      · have HJ1 : Hid (J (pre ++ (y1 ++ z1)) w' ∧ Kept S W w') := ⟨hJ1, hK1⟩
        clear hJ1 hK1
        go_roundg (cs.length - (i + 1))
        case measure => omega
        case rel => exact ⟨i + 1, y1 ++ z1, z2, by go_num, by omega, rfl, HN.out.1, HN.out.2.1, HN.out.2.2, HJ1.out.1, HJ1.out.2⟩
      · have HE : Hid (WalkR S J Jx to.data.toList gs.flatten pre ys W (.returned (.bool false)) w') := hE
        clear hE
        go_ret
        exact HE.out
    · have hltI : ¬ (i : Int) < (cs.length : Int) := by omega
      go_wp2
      go_ret
      refine .inl ⟨true, rfl, ?_, HR.out.2.2.2.2, fun h => by cases h⟩
      have h2 : y2 = [] := by
        have h := HR.out.2.2.1
        rw [List.drop_eq_nil_of_le (by have := HL.out; omega)] at h
        simpa [rng] using h
      have h1 := HR.out.1
      rw [h2, List.append_nil] at h1
      rw [h1]; exact HR.out.2.2.2.1
end

end Go.Proofs.YtcgjppacnhmjlaaGreat
