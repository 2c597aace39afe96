/- Reading: IsSchema, readNumber, readText, read. -/
import Derived.Test.YtcgjppacnhmjlaaTupB
import Derived.OwnWalk
import Derived.Deep.RegionHeld3
set_option linter.unusedVariables false
set_option linter.unusedSimpArgs false
namespace Go.Proofs.Ytcgjppacnhmjlaa
open Go.RowKit Go.Shelf
attribute [local go_sem ↓] Go.wp_at_zero Go.wp_at_succ

theorem cut_any (s : ByteArray) (w : World) (hs : s.size ≤ 9223372036854775807) : Calls Try.prog 137 #[.string s, .string ⟨#[0]⟩] w fun e w' => (∃ f, e = .returned (.tuple #[.string ⟨(cutZ s.data.toList).1.toArray⟩, .string ⟨(cutZ s.data.toList).2.toArray⟩, .bool f])) ∧ Below w.heap.size w w' := by
  have HC := liteCut_any s w hs
  generalize (⟨(cutZ s.data.toList).1.toArray⟩ : ByteArray) = a at *
  generalize (⟨(cutZ s.data.toList).2.toArray⟩ : ByteArray) = b at *
  go_enter Try.func137, Try.ntmps137
  go_wp2_with ((go_at_call 146; refine HC.mono ?_; rintro e w1 ⟨⟨f, rfl⟩, hb⟩))
  go_ret3
  exact ⟨⟨f, rfl⟩, hb⟩

/-- A list of whole numbers as it lies in memory. -/
def IntsAt (w : World) (v : Value) (ks : List Int) : Prop := ∃ ao kb p cap, v = .slice ao ks.length cap ∧ ks.length ≤ cap ∧ ∀ (i : Nat) k, ks[i]? = some k → ao = some ⟨kb, p, none⟩ ∧ w.cell? ⟨kb, p + i, none⟩ = some (.int .i64 k)
theorem IntsAt.on {w w' : World} {v : Value} {ks : List Int} (h : IntsAt w v ks) (hb : Below w.heap.size w w') : IntsAt w' v ks := by
  obtain ⟨ao, kb, p, cap, h1, hc, h2⟩ := h
  exact ⟨ao, kb, p, cap, h1, hc, fun i k hk => ⟨(h2 i k hk).1, cell_later hb (h2 i k hk).2⟩⟩

set_option maxRecDepth 100000 in
set_option maxHeartbeats 1000000 in
theorem isSchema_any {w : World} {v : Value} {ks : List Int} (hv : IntsAt w v ks) (hl : ks.length ≤ 9223372036854775807) : Calls Try.prog 55 #[v] w fun e w' => e = .returned (.bool (decide (IsSch ks))) ∧ w' = w := by
  obtain ⟨ao, kb, p, cap, rfl, hcap, hc⟩ := hv
  have HC : Hid (∀ (i : Nat) k, ks[i]? = some k → ao = some ⟨kb, p, none⟩ ∧ w.cell? ⟨kb, p + i, none⟩ = some (.int .i64 k)) := hc
  clear hc
  by_cases hn : 1 ≤ ks.length ∧ ks.length ≤ 6
  · have n1 : ¬ (ks.length : Int) < 1 := by omega
    have n2 : ¬ (6 : Int) < (ks.length : Int) := by omega
    go_enter Try.func55, Try.ntmps55
    go_wp2
    go_loopg [4, 15] ks.length (fun gk s4 s15 wr => ∃ i : Nat, s15 = .int .i64 i ∧ i ≤ ks.length ∧ gk = ks.length - i ∧ wr = w ∧ Hid (∀ k ∈ ks.take i, 1 ≤ k ∧ k ≤ 9))
    case atStart => exact ⟨0, rfl, by omega, rfl, rfl, fun k hk => by simp at hk⟩
    case round =>
      obtain ⟨i, rfl, hi, rfl, rfl, HI⟩ := hrel
      by_cases hlt : i < ks.length
      · obtain ⟨k, hk⟩ : ∃ k, ks[i]? = some k := ⟨_, List.getElem?_eq_getElem hlt⟩
        obtain ⟨rfl, c0⟩ := HC.out i k hk
        have hltI : (i : Int) < (ks.length : Int) := by omega
        have HK : Hid (ks[i]? = some k) := hk
        clear hk
        by_cases g1 : 1 ≤ k
        · by_cases g2 : k ≤ 9
          · have g1' : ¬ k < 1 := by omega
            have g2' : ¬ (9 : Int) < k := by omega
            go_wp2
            go_roundg (ks.length - (i + 1))
            case measure => omega
            case rel =>
              refine ⟨i + 1, by go_num, by omega, rfl, rfl, fun x hx => ?_⟩
              rw [List.take_add_one, HK.out] at hx
              simp at hx
              rcases hx with hx | rfl
              · exact HI.out x hx
              · exact ⟨g1, g2⟩
          · have g2' : (9 : Int) < k := by omega
            have g1' : ¬ k < 1 := by omega
            go_wp2
            go_ret
            rw [decide_eq_false (fun h : IsSch ks => by have := h.all (List.mem_of_getElem? HK.out); omega)]
            exact ⟨rfl, rfl⟩
        · have g1' : k < 1 := by omega
          go_wp2
          go_ret
          rw [decide_eq_false (fun h : IsSch ks => by have := h.all (List.mem_of_getElem? HK.out); omega)]
          exact ⟨rfl, rfl⟩
      · have hltI : ¬ (i : Int) < (ks.length : Int) := by omega
        go_wp2
        go_ret
        have hall := HI.out
        rw [List.take_of_length_le (by omega)] at hall
        rw [decide_eq_true (show IsSch ks from ⟨hn, hall⟩)]
        exact ⟨rfl, rfl⟩
  · rw [decide_eq_false (fun h : IsSch ks => hn h.1)]
    by_cases h1 : ks.length < 1
    · have n1 : (ks.length : Int) < 1 := by omega
      go_enter Try.func55, Try.ntmps55
      go_wp2
      go_ret
      exact ⟨rfl, rfl⟩
    · have n1 : ¬ (ks.length : Int) < 1 := by omega
      have n2 : (6 : Int) < (ks.length : Int) := by omega
      go_enter Try.func55, Try.ntmps55
      go_wp2
      go_ret
      exact ⟨rfl, rfl⟩
set_option maxRecDepth 100000 in
theorem or_byte (n : Nat) (b : UInt8) (hn : n * 256 + 255 < 18446744073709551616) : bits .or .u64 ((n : Int) * 256) (IntKind.u64.wrap (b.toNat : Int)) = ((n * 256 + b.toNat : Nat) : Int) := by
  have hb : b.toNat < 256 := b.toNat_lt
  have e : IntKind.u64.wrap (b.toNat : Int) = (b.toNat : Int) := by rw [IntKind.wrap_u64]; omega
  have e1 : (n : Int) * 256 = ((n * 256 : Nat) : Int) := by omega
  rw [e, e1, bits_or_u64_nat _ _ (by omega) (by omega)]
  congr 1
  have := Nat.two_pow_add_eq_or_of_lt (i := 8) (b := b.toNat) (by omega) n
  have e2 : (2 : Nat) ^ 8 = 256 := by decide
  rw [e2] at this
  rw [Nat.mul_comm n 256]
  exact this.symm

set_option maxRecDepth 100000 in
set_option maxHeartbeats 1000000 in
theorem readNumber_any (k : Int) (s : ByteArray) (w : World) (hs : s.size ≤ 9223372036854775807) : Calls Try.prog 121 #[.int .i64 k, .string s] w fun e w' => e = .returned (if s.size < widthOf k then .tuple #[.int .u64 0, .string ⟨#[]⟩, .bool false] else .tuple #[.int .u64 (beOf (s.data.toList.take (widthOf k))), .string (s.extract (widthOf k) s.size), .bool true]) ∧ Below w.heap.size w w' := by
  have HW := width_any k
  have hm8 : widthOf k ≤ 8 := by rcases widthOf_cases k with h | h | h | h <;> omega
  generalize widthOf k = m at *
  by_cases hlt : s.size < m
  · rw [if_pos hlt]
    have hltI : (s.size : Int) < (m : Int) := by omega
    go_enter Try.func121, Try.ntmps121
    go_wp2_with ((go_at_call 141; refine (HW _).mono ?_; rintro e w1 ⟨rfl, rfl⟩))
    go_ret3
    exact ⟨rfl, Below.refl _ _⟩
  · rw [if_neg hlt]
    have hltI : ¬ (s.size : Int) < (m : Int) := by omega
    have hle : (m : Int) ≤ (s.size : Int) := by omega
    go_enter Try.func121, Try.ntmps121
    go_wp2_with ((go_at_call 141; refine (HW _).mono ?_; rintro e w1 ⟨rfl, rfl⟩))
    go_loopg [4, 7, 15] m (fun gk s4 s7 s15 wr => ∃ i n : Nat, s15 = .int .i64 i ∧ i ≤ m ∧ gk = m - i ∧ wr = w1 ∧ s4 = .int .u64 n ∧ Hid (n = beOf (s.data.toList.take i)))
    case atStart => exact ⟨0, 0, rfl, by omega, rfl, rfl, rfl, (by simp [beOf] : 0 = beOf (s.data.toList.take 0))⟩
    case round =>
      obtain ⟨i, n, rfl, hi, rfl, rfl, rfl, HN⟩ := hrel
      by_cases hlt2 : i < m
      · have hiI : (i : Int) < (m : Int) := by omega
        have his : i < s.size := by omega
        have hbnd : n * 256 + 255 < 18446744073709551616 := by
          have h1 := beOf_lt i (s.data.toList.take i) (by simp; omega)
          rw [← HN.out] at h1
          have h2 : (256 : Nat) ^ i ≤ 256 ^ 7 := Nat.pow_le_pow_right (by decide) (by omega)
          have h3 : (256 : Nat) ^ 7 = 72057594037927936 := by decide
          omega
        have hor := or_byte n s[i] hbnd
        go_wp2
        go_roundg (m - (i + 1))
        case measure => omega
        case rel => exact ⟨i + 1, n * 256 + s[i].toNat, by go_num, by omega, rfl, rfl, by first | rfl | rw [hor], (by rw [take_snoc s i his, beOf_snoc, ← HN.out] : n * 256 + s[i].toNat = beOf (s.data.toList.take (i + 1)))⟩
      · obtain rfl : i = m := by omega
        have hiI : ¬ (i : Int) < (i : Int) := by omega
        go_wp2_with fail
        go_quiet ((go_at_call 141; exact Calls.quiet_of_same (HW _)))
        go_wp2
        go_ret3
        exact ⟨by rw [HN.out]; rfl, belowN (Below.refl _ _) _⟩

theorem belowA (w : World) (ob : Obj) : Below w.heap.size w (w.alloc ob) := (Below.refl _ _).alloc (Nat.le_refl _) _
/-- Behind some rounds: what is built, and what is left to be read. -/
structure Rt (w : World) (s0 : Bs) (b : Nat) (acc t : Bs) (wr : World) : Prop where
  bld : Bld w.heap.size b acc wr
  below : Below w.heap.size w wr
  eq : unesc s0 = (unesc t).map fun p => (acc ++ p.1, p.2)
  len : acc.length + t.length ≤ s0.length
def textR (o : Option (Bs × Bs)) : Value := match o with
  | none => .tuple #[.string ⟨#[]⟩, .string ⟨#[]⟩, .bool false]
  | some p => .tuple #[.string ⟨p.1.toArray⟩, .string ⟨p.2.toArray⟩, .bool true]
theorem hp_one (t : Bs) (c : UInt8) : Lib.hasPrefix t [c] = true ↔ ∃ r, t = c :: r := by
  unfold Lib.hasPrefix
  cases t with
  | nil => simp
  | cons a r =>
    constructor
    · intro h
      simp at h
      exact ⟨r, by rw [h]⟩
    · rintro ⟨r', h⟩
      cases h
      simp
theorem bld_on {B b : Nat} {l : Bs} {w w' : World} (h : Bld B b l w) (hb : Below w.heap.size w w') : Bld B b l w' := by
  have key : ∀ p, Lib.BuilderAt 196 5 B b p (Lib.byteCells l) w → Lib.BuilderAt 196 5 B b p (Lib.byteCells l) w' := fun p hp => by
    obtain ⟨h1, v, h2, h3, h4⟩ := hp
    refine ⟨h1, v, (hb.block b (by
      rcases Nat.lt_or_ge b w.heap.size with hlt | hge
      · exact hlt
      · rw [Array.getElem?_eq_none hge] at h2; cases h2)).trans h2, ?_, h4⟩
    obtain ⟨q0, q1 | ⟨g', cap', cur, q1, q2, q3, q4⟩⟩ := h3
    · exact ⟨q0, .inl q1⟩
    · exact ⟨q0, .inr ⟨g', cap', cur, q1, q2, (hb.block g' (by
        rcases Nat.lt_or_ge g' w.heap.size with hlt | hge
        · exact hlt
        · rw [Array.getElem?_eq_none hge] at q3; cases q3)).trans q3, q4⟩⟩
  rcases h with h | h
  · exact .inl (key _ h)
  · exact .inr (key _ h)

set_option maxRecDepth 100000 in
set_option maxHeartbeats 2000000 in
theorem readText_any (s : ByteArray) (w : World) (hs : s.size ≤ 140737488355328) : Calls Try.prog 120 #[.string s] w fun e w' => e = .returned (textR (unesc s.data.toList)) ∧ Below w.heap.size w w' := by
  have HCut : Hid (∀ (t : Bs) w1, t.length ≤ 140737488355328 → Calls Try.prog 137 #[.string ⟨t.toArray⟩, .string ⟨#[0]⟩] w1 fun e w' => (∃ f, e = .returned (.tuple #[.string ⟨(cutZ t).1.toArray⟩, .string ⟨(cutZ t).2.toArray⟩, .bool f])) ∧ Below w1.heap.size w1 w') := fun t w1 h => by
    have := cut_any ⟨t.toArray⟩ w1 (by show t.toArray.size ≤ _; simp; omega)
    simpa using this
  have HPre : Hid (∀ (t : Bs) (c : UInt8) w1, Calls Try.prog 64 #[.string ⟨t.toArray⟩, .string ⟨#[c]⟩] w1 fun e w' => e = .returned (.bool (Lib.hasPrefix t [c])) ∧ w' = w1) := fun t c w1 => by
    have := Try.strings_HasPrefix ⟨t.toArray⟩ ⟨#[c]⟩ w1
    simpa using this
  obtain ⟨t0, ht0⟩ : ∃ t0, t0 = s.data.toList := ⟨_, rfl⟩
  have hst : s = ⟨t0.toArray⟩ := by rw [ht0]
  have hlen0 : t0.length ≤ 140737488355328 := by rw [ht0]; simpa using hs
  rw [← ht0]
  clear ht0 hs
  subst hst
  have e0 : ∀ w1 : World, w1.alloc (.cells #[.pointer none, .slice none 0 0] 196) = w1.alloc (.cells #[.pointer none, .slice none 0 0] 196) := fun _ => rfl
  have HB0 : Hid (Rt w t0 w.heap.size [] t0 (w.alloc (.cells #[.pointer none, .slice none 0 0] 196))) := ⟨bld_new w, belowA w _, by simp, by simp⟩
  clear e0
  go_enter Try.func120, Try.ntmps120
  go_wp2_with fail
  go_loopg [0, 6, 7, 8] t0.length (fun gk s0 s6 s7 s8 wr => ∃ acc t : Bs, s0 = .string ⟨t.toArray⟩ ∧ gk = t.length ∧ Hid (Rt w t0 w.heap.size acc t wr))
  case atStart => exact ⟨[], t0, rfl, rfl, HB0.out⟩
  case round =>
    obtain ⟨acc, t, rfl, rfl, HR⟩ := hrel
    clear HB0
    have hcl := cutZ_len t
    have hue := unesc_cut t
    obtain ⟨pc, bh, hcz⟩ : ∃ pc bh, cutZ t = (pc, bh) := ⟨_, _, rfl⟩
    have hcut := HCut.out t
    rw [hcz] at hcl hue hcut
    dsimp only at hcl hue hcut
    have HCt : Hid (∀ w1, t.length ≤ 140737488355328 → Calls Try.prog 137 #[.string ⟨t.toArray⟩, .string ⟨#[0]⟩] w1 fun e w' => (∃ f, e = .returned (.tuple #[.string ⟨pc.toArray⟩, .string ⟨bh.toArray⟩, .bool f])) ∧ Below w1.heap.size w1 w') := hcut
    have HUE : Hid (unesc t = afterCut pc bh) := hue
    have hlt := HR.out.len
    clear hcut hue hcz
    have HStr : Hid (∀ w1, Below wr.heap.size wr w1 → Calls Try.prog 138 #[.pointer (some ⟨w.heap.size, 0, none⟩), .string ⟨pc.toArray⟩] w1 fun e w' => e = .returned (.tuple #[.int .i64 pc.length, .nilIface]) ∧ Bld w.heap.size w.heap.size (acc ++ pc) w' ∧ Below w.heap.size w w') := fun w1 hb => by
      have hw1 := HR.out.below.trans (hb.mono HR.out.below.size)
      refine (bStr_any w.heap.size w.heap.size acc ⟨pc.toArray⟩ w1 (bld_on HR.out.bld hb) (by show acc.length + pc.toArray.size ≤ _; simp; omega) hw1.size).mono ?_
      rintro e w' ⟨h1, h2, h3⟩
      refine ⟨by rw [h1]; show Ending.returned (.tuple #[.int .i64 (pc.toArray.size : Nat), .nilIface]) = _; simp, by simpa using h2, hw1.trans h3⟩
    rcases bh with _ | ⟨c, r⟩
    · have p0 : Lib.hasPrefix [] [0] = false := by decide
      have p1 : Lib.hasPrefix [] [255] = false := by decide
      have h0 := HPre.out [] 0
      have h1 := HPre.out [] 255
      rw [p0] at h0
      rw [p1] at h1
      clear p0 p1
      go_wp2_with (first
        | (go_at_call 137; refine (HCt.out _ (by omega)).mono ?_; rintro e w2 ⟨⟨f, rfl⟩, hb2⟩)
        | (go_at_call 138; refine (HStr.out _ hb2).mono ?_; rintro e w3 ⟨rfl, hB3, hb3⟩)
        | (go_at_call 64; refine (h0 _).mono ?_; clear h0; rintro e w4 ⟨rfl, rfl⟩)
        | (go_at_call 64; refine (h1 _).mono ?_; rintro e w4 ⟨rfl, rfl⟩))
      go_ret3
      rw [HR.out.eq, HUE.out]
      exact ⟨rfl, hb3⟩
    · obtain ⟨bs, hbs⟩ : ∃ bs : ByteArray, bs = ⟨(c :: r).toArray⟩ := ⟨_, rfl⟩
      have hsz : (1 : Int) ≤ (bs.size : Int) := by rw [hbs]; show (1 : Int) ≤ (((c :: r).toArray.size : Nat) : Int); simp; omega
      have HEX : Hid (bs.extract 1 bs.size = ⟨r.toArray⟩) := by
        show bs.extract 1 bs.size = ⟨r.toArray⟩
        rw [← drop_mk, hbs]; simp
      have h0 := HPre.out (c :: r) 0
      have h1 := HPre.out (c :: r) 255
      have HCt2 : Hid (∀ w1, t.length ≤ 140737488355328 → Calls Try.prog 137 #[.string ⟨t.toArray⟩, .string ⟨#[0]⟩] w1 fun e w' => (∃ f, e = .returned (.tuple #[.string ⟨pc.toArray⟩, .string bs, .bool f])) ∧ Below w1.heap.size w1 w') := by rw [hbs]; exact HCt.out
      rw [← hbs] at h0 h1
      simp only [List.length_cons] at hcl
      clear HCt hbs
      by_cases hc0 : c = 0
      · subst hc0
        have p0 : Lib.hasPrefix (0 :: r) [0] = true := (hp_one _ _).mpr ⟨r, rfl⟩
        rw [p0] at h0
        have HString : Hid (∀ w1 w2, Bld w.heap.size w.heap.size (acc ++ pc) w1 → Below w.heap.size w w1 → Below w1.heap.size w1 w2 → Calls Try.prog 139 #[.pointer (some ⟨w.heap.size, 0, none⟩)] w2 fun e w' => e = .returned (.string ⟨(acc ++ pc).toArray⟩) ∧ Below w.heap.size w w') := fun w1 w2 hB hb hb2 => by
          have hb3 := hb.trans (hb2.mono hb.size)
          exact (bString_any _ _ _ w2 (bld_on hB hb2) hb3.size).mono fun e w' he => ⟨he.1, hb3.trans he.2⟩
        clear p0 h1
        go_wp2_with (first
          | (go_at_call 137; refine (HCt2.out _ (by omega)).mono ?_; rintro e w2 ⟨⟨f, rfl⟩, hb2⟩)
          | (go_at_call 138; refine (HStr.out _ hb2).mono ?_; rintro e w3 ⟨rfl, hB3, hb3⟩; have HB3 : Hid (Bld w.heap.size w.heap.size (acc ++ pc) w3) := hB3; clear hB3)
          | (go_at_call 64; refine (h0 _).mono ?_; clear h0; rintro e w4 ⟨rfl, rfl⟩))
        go_region_held3 (fun _ => True) (trivial) ((go_at_call 139; refine (HString.out _ _ HB3.out hb3 ((Below.refl _ _).drew)).mono ?_; rintro e w5 ⟨rfl, hb5⟩))
        all_goals go_wp2_with fail
        all_goals go_ret3
        all_goals
          rw [HR.out.eq, HUE.out]
          simp only [afterCut, if_true, Option.map_some, textR, HEX.out]
          exact ⟨rfl, hb5⟩
      · have p0 : Lib.hasPrefix (c :: r) [0] = false := by
          cases hh : Lib.hasPrefix (c :: r) [0] with
          | false => rfl
          | true => obtain ⟨r', hr⟩ := (hp_one _ _).mp hh; cases hr; exact absurd rfl hc0
        rw [p0] at h0
        clear p0
        by_cases hc1 : c = 255
        · subst hc1
          have p1 : Lib.hasPrefix (255 :: r) [255] = true := (hp_one _ _).mpr ⟨r, rfl⟩
          rw [p1] at h1
          have HByte : Hid (∀ w1, Bld w.heap.size w.heap.size (acc ++ pc) w1 → Below w.heap.size w w1 → Calls Try.prog 140 #[.pointer (some ⟨w.heap.size, 0, none⟩), .int .u8 0] w1 fun e w' => e = .returned .nilIface ∧ Bld w.heap.size w.heap.size (acc ++ pc ++ [0]) w' ∧ Below w.heap.size w w') := fun w1 hB hb =>
            (bByte_any _ _ _ 0 w1 hB (by simp; omega) hb.size).mono fun e w' he => ⟨he.1, he.2.1, hb.trans he.2.2⟩
          clear p1
          go_wp2_with (first
            | (go_at_call 137; refine (HCt2.out _ (by omega)).mono ?_; rintro e w2 ⟨⟨f, rfl⟩, hb2⟩)
            | (go_at_call 138; refine (HStr.out _ hb2).mono ?_; rintro e w3 ⟨rfl, hB3, hb3⟩; have HB3 : Hid (Bld w.heap.size w.heap.size (acc ++ pc) w3) := hB3; clear hB3)
            | (go_at_call 140; refine (HByte.out _ HB3.out hb3).mono ?_; rintro e w5 ⟨rfl, hB5, hb5⟩; have HB5 : Hid (Bld w.heap.size w.heap.size (acc ++ pc ++ [0]) w5) := hB5; clear hB5)
            | (go_at_call 64; refine (h0 _).mono ?_; clear h0; rintro e w4 ⟨rfl, rfl⟩)
            | (go_at_call 64; refine (h1 _).mono ?_; clear h1; rintro e w4 ⟨rfl, rfl⟩))
          rw [HEX.out]
          go_roundg r.length
          case measure => omega
          case rel =>
            refine ⟨acc ++ pc ++ [0], r, rfl, rfl, HB5.out, hb5, ?_, by simp; omega⟩
            rw [HR.out.eq, HUE.out]
            simp [afterCut, Option.map_map, Function.comp_def]
        · have p1 : Lib.hasPrefix (c :: r) [255] = false := by
            cases hh : Lib.hasPrefix (c :: r) [255] with
            | false => rfl
            | true => obtain ⟨r', hr⟩ := (hp_one _ _).mp hh; cases hr; exact absurd rfl hc1
          rw [p1] at h1
          have HU2 : Hid (unesc t = none) := by
            show unesc t = none
            rw [HUE.out, afterCut, if_neg hc0, if_neg hc1]
          clear p1
          go_wp2_with (first
            | (go_at_call 137; refine (HCt2.out _ (by omega)).mono ?_; rintro e w2 ⟨⟨f, rfl⟩, hb2⟩)
            | (go_at_call 138; refine (HStr.out _ hb2).mono ?_; rintro e w3 ⟨rfl, hB3, hb3⟩)
            | (go_at_call 64; refine (h0 _).mono ?_; clear h0; rintro e w4 ⟨rfl, rfl⟩)
            | (go_at_call 64; refine (h1 _).mono ?_; clear h1; rintro e w4 ⟨rfl, rfl⟩))
          go_ret3
          rw [HR.out.eq, HU2.out]
          exact ⟨rfl, hb3⟩

end Go.Proofs.Ytcgjppacnhmjlaa
