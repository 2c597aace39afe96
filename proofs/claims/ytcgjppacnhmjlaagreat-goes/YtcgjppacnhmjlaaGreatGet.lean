/- Get answers the value that the list has. -/
import Derived.Test.YtcgjppacnhmjlaaGreatWithD
set_option linter.unusedVariables false
set_option linter.unusedSimpArgs false
namespace Go.Proofs.YtcgjppacnhmjlaaGreat
open Go.RowKit
variable {V : Type}

theorem Shaped.lk_front {p xs : List UInt8} {ov : Option V} {gs : List (List (List UInt8 × V))} {l : List (List UInt8 × V)} (h : Shaped p ov xs gs l) {k : List UInt8} (hk : ¬ p <+: k) : lk k l = none :=
  lk_none fun _ he hek => hk (hek ▸ h.front he)
theorem Shaped.lk_own {p xs : List UInt8} {ov : Option V} {gs : List (List (List UInt8 × V))} {l : List (List UInt8 × V)} (h : Shaped p ov xs gs l) : lk p l = ov := by
  cases ov with
  | some v => exact lk_some h.srt (h.mem.mpr (.inl ⟨rfl, rfl⟩))
  | none =>
    refine lk_none fun e he hek => ?_
    rcases h.mem.mp he with h1 | ⟨i, g, hg, h1⟩
    · cases h1.2
    · obtain ⟨x, hx⟩ := h.grps.byte hg
      obtain ⟨r, hr⟩ := h.grps.pre i x g hx hg e h1
      exact app_ne (hr.symm.trans hek)
theorem Shaped.lk_into {p xs : List UInt8} {ov : Option V} {gs : List (List (List UInt8 × V))} {l : List (List UInt8 × V)} (h : Shaped p ov xs gs l) {k r : List UInt8} {x : UInt8} (hk : k = p ++ x :: r) {i : Nat} (hx : xs[i]? = some x) {g : List (List UInt8 × V)} (hg : gs[i]? = some g) : lk k l = lk k g := by
  refine lk_congr h.srt (h.grps.srt i g hg) fun v => ⟨fun hm => ?_, fun hm => h.mem.mpr (.inr ⟨i, g, hg, hm⟩)⟩
  rcases h.mem.mp hm with h1 | ⟨j, m, hj, h1⟩
  · exact absurd (hk.symm.trans h1.1) app_ne
  · obtain ⟨y, hy⟩ := h.grps.byte hj
    obtain ⟨q, hq⟩ := h.grps.pre j y m hy hj _ h1
    obtain ⟨rfl, _⟩ := app_inj (hk.symm.trans hq)
    obtain rfl := pw_inj h.grps.pw hx hy
    rw [hg] at hj; cases hj; exact h1
theorem Shaped.lk_beside {p xs : List UInt8} {ov : Option V} {gs : List (List (List UInt8 × V))} {l : List (List UInt8 × V)} (h : Shaped p ov xs gs l) {k r : List UInt8} {x : UInt8} (hk : k = p ++ x :: r) (hx : xs[posOf x xs]? ≠ some x) : lk k l = none := by
  refine lk_none fun e he hek => ?_
  rcases h.mem.mp he with h1 | ⟨j, m, hj, h1⟩
  · exact app_ne (hk.symm.trans (hek.symm.trans h1.1))
  · obtain ⟨y, hy⟩ := h.grps.byte hj
    obtain ⟨q, hq⟩ := h.grps.pre j y m hy hj _ h1
    obtain ⟨rfl, _⟩ := app_inj (hk.symm.trans (hek.symm.trans hq))
    obtain ⟨_, s2, s3⟩ := posOf_spec x xs h.grps.pw
    have : posOf x xs = j := posOf_of x xs j (Nat.le_of_lt (List.getElem?_eq_some_iff.mp hy).1) (fun t z ht hz => pw_get h.grps.pw hz hy ht) (fun t z ht hz h3 => by
      rcases Nat.lt_or_eq_of_le ht with h4 | h4
      · exact UInt8.lt_irrefl x (UInt8.lt_trans (pw_get h.grps.pw hy hz h4) h3)
      · rw [← h4, hy] at hz; cases hz; exact UInt8.lt_irrefl x h3)
    rw [this] at hx; exact hx hy

set_option maxHeartbeats 400000 in
theorem branch_found {w : World} {t pos k o cap c len : Nat} {key : ByteArray} (hbc : w.cell? ⟨t, 2, none⟩ = some (.slice (some ⟨k, o, none⟩) len cap)) (hcc : w.cell? ⟨k, o + pos, none⟩ = some (.pointer (some ⟨c, 0, none⟩))) (hpos : pos < len) (hlc : len ≤ 256)
    (hP : Calls Tryz.prog 67 #[.pointer (some ⟨t, 0, none⟩), .string key] w fun e w' => e = .returned (.tuple #[.int .i64 pos, .bool true]) ∧ Below w.heap.size w w') :
    Calls Tryz.prog 52 #[.pointer (some ⟨t, 0, none⟩), .string key] w fun e w' => e = .returned (.pointer (some ⟨c, 0, none⟩)) ∧ Below w.heap.size w w' := by
  have HP : Hid (Calls Tryz.prog 67 #[.pointer (some ⟨t, 0, none⟩), .string key] w fun e w' => e = .returned (.tuple #[.int .i64 pos, .bool true]) ∧ Below w.heap.size w w') := hP
  have HC : Hid (w.cell? ⟨t, 2, none⟩ = some (.slice (some ⟨k, o, none⟩) len cap) ∧ w.cell? ⟨k, o + pos, none⟩ = some (.pointer (some ⟨c, 0, none⟩))) := ⟨hbc, hcc⟩
  clear hP hbc hcc
  go_enter Tryz.func52, Tryz.ntmps52
  go_wp2_with (go_at_call 67; refine HP.out.mono ?_; rintro e w2 ⟨rfl, hbel⟩; have hb2 := cell_later hbel HC.out.1; have hc2 := cell_later hbel HC.out.2)
  go_ret
  exact ⟨rfl, hbel⟩
set_option maxHeartbeats 400000 in
theorem branch_none {w : World} {t pos : Nat} {key : ByteArray}
    (hP : Calls Tryz.prog 67 #[.pointer (some ⟨t, 0, none⟩), .string key] w fun e w' => e = .returned (.tuple #[.int .i64 pos, .bool false]) ∧ Below w.heap.size w w') :
    Calls Tryz.prog 52 #[.pointer (some ⟨t, 0, none⟩), .string key] w fun e w' => e = .returned (.pointer none) ∧ Below w.heap.size w w' := by
  have HP : Hid (Calls Tryz.prog 67 #[.pointer (some ⟨t, 0, none⟩), .string key] w fun e w' => e = .returned (.tuple #[.int .i64 pos, .bool false]) ∧ Below w.heap.size w w') := hP
  clear hP
  go_enter Tryz.func52, Tryz.ntmps52
  go_wp2_with (go_at_call 67; refine HP.out.mono ?_; rintro e w2 ⟨rfl, hbel⟩)
  go_ret
  exact ⟨rfl, hbel⟩

/-- The tree that a pointer holds, nil the one of no key. -/
def TreeN (S : Nat → Prop) (n : Nat) (w : World) (tp : Option Addr) (l : List KV) : Prop := (tp = none ∧ l = []) ∨ ∃ t, tp = some ⟨t, 0, none⟩ ∧ RepN S n w t l

theorem TreeN.on {S : Nat → Prop} {n : Nat} {w w' : World} {tp : Option Addr} {l : List KV} (h : TreeN S n w tp l) (hb : Below w.heap.size w w') : TreeN S n w' tp l := by
  rcases h with h | ⟨t, h1, h2⟩
  · exact .inl h
  · exact .inr ⟨t, h1, h2.on hb⟩

/-- branch leads to a tree with the same value of the key. -/
theorem branch_rep {S : Nat → Prop} {w : World} {n t : Nat} {pre : ByteArray} {vp : Option Addr} {bv : Value} {ov : Option Int} {cs : List Nat} {xs : List UInt8} {gs : List (List KV)} {l : List KV} {key : ByteArray} (hN : NodeAt S w t pre vp bv l.length) (hR : RowAt S w bv cs) (hl : cs.length = gs.length)
    (hC : ∀ (i c : Nat) g, cs[i]? = some c → gs[i]? = some g → RepN S n w c g) (hs : Shaped pre.data.toList ov xs gs l) (hk : key.size ≤ 9223372036854775807) (hkl : pre.size < key.size) (hpre : pre.data.toList <+: key.data.toList) :
    Calls Tryz.prog 52 #[.pointer (some ⟨t, 0, none⟩), .string key] w fun e w' => ∃ tp l', e = .returned (.pointer tp) ∧ TreeN S n w tp l' ∧ lk key.data.toList l = lk key.data.toList l' ∧ Below w.heap.size w w' := by
  have hkey := key_parts key pre.size hkl
  have hP : pre.data.toList = key.data.toList.take pre.size := by rw [Lib.size_eq]; exact (List.prefix_iff_eq_take.mp hpre)
  rw [← hP] at hkey
  have hB : BytesAt w pre.size cs xs := by rw [Lib.size_eq]; exact repBytes hl hC hs.grps
  have hcs : cs.length ≤ 256 := by have := pw_len hs.grps.pw; have := hs.grps.len; omega
  have hpl := place_rep (S := S) (n := n) hN.c0 hN.c2 hR hB hs.grps.pw hk hkl
  by_cases hf : xs[posOf key[pre.size] xs]? = some key[pre.size]
  · obtain ⟨g, hg⟩ := hs.grps.grp hf
    have hpos : posOf key[pre.size] xs < cs.length := by rw [hl]; exact (List.getElem?_eq_some_iff.mp hg).1
    have hci : cs[posOf key[pre.size] xs]? = some cs[posOf key[pre.size] xs] := List.getElem?_eq_getElem hpos
    rcases hR with ⟨rfl, _⟩ | ⟨k, o, cap, h1, rfl, h3, h4, h5, h6⟩
    · simp at hpos
    rw [hf] at hpl
    refine (branch_found hN.c2 (h5 _ _ hci) hpos hcs (hpl.mono fun e w' h => ⟨by rw [h.1]; simp, h.2⟩)).mono ?_
    rintro e w' ⟨rfl, hb⟩
    exact ⟨_, g, rfl, .inr ⟨_, rfl, hC _ _ _ hci hg⟩, hs.lk_into hkey hf hg, hb⟩
  · rw [decide_eq_false hf] at hpl
    refine (branch_none hpl).mono ?_
    rintro e w' ⟨rfl, hb⟩
    exact ⟨none, [], rfl, .inl ⟨rfl, rfl⟩, by rw [hs.lk_beside hkey hf]; rfl, hb⟩


/-- The zero value beside no value. -/
def valOr (o : Option Int) : Int := o.getD 0

theorem get_ret {a : Int} {f : Bool} {o : Option Int} (h : a = valOr o) (h2 : f = o.isSome) : Ending.returned (.tuple #[.int .i64 a, .bool f]) = .returned (.tuple #[.int .i64 (valOr o), .bool o.isSome]) := by rw [h, h2]

set_option maxRecDepth 100000 in
set_option maxHeartbeats 1000000 in
theorem get_any {S : Nat → Prop} {w : World} {n : Nat} {tp : Option Addr} {l : List KV} {key : ByteArray} (hT : TreeN S n w tp l) (hk : key.size ≤ 9223372036854775807) :
    Calls Tryz.prog 34 #[.pointer tp, .string key] w fun e w' => e = .returned (.tuple #[.int .i64 (valOr (lk key.data.toList l)), .bool (lk key.data.toList l).isSome]) ∧ Below w.heap.size w w' := by
  have HT : Hid (TreeN S n w tp l) := hT
  clear hT
  go_enter Tryz.func34, Tryz.ntmps34
  go_wp2
  go_loopg [0] n (fun gk tv wr => ∃ tp' l', tv = .pointer tp' ∧ Hid (TreeN S gk wr tp' l') ∧ Hid (lk key.data.toList l = lk key.data.toList l') ∧ Hid (Below w.heap.size w wr))
  case atStart => exact ⟨tp, l, rfl, HT, rfl, Below.refl _ _⟩
  case round =>
    obtain ⟨tp', l', rfl, H1, H2, H3⟩ := hrel
    rcases H1.out with ⟨rfl, h0⟩ | ⟨t, rfl, hR⟩
    · have HE : Hid (lk key.data.toList l = none) := by have := H2.out; rw [h0] at this; exact this
      clear h0
      go_wp2
      go_ret2
      exact ⟨get_ret (by rw [HE.out]; rfl) (by rw [HE.out]; rfl), H3.out⟩
    · obtain ⟨g, rfl⟩ : ∃ g, gk = g + 1 := by cases gk with
        | zero => exact hR.elim
        | succ g => exact ⟨g, rfl⟩
      obtain ⟨pre, vp, bv, ov, cs, xs, gs, hN, hO, hRow, hl, hC, hs⟩ := hR
      have hc0 := hN.c0
      have hc1 := hN.c1
      have hps := hN.short
      have HP : Hid (∀ w1, Calls Tryz.prog 45 #[.string key, .string pre] w1 fun e w' => e = .returned (.bool (Lib.hasPrefix key.data.toList pre.data.toList)) ∧ w' = w1) := fun w1 => hasPrefix_any key pre w1 hk (by unfold maxLen; omega)
      by_cases hp : Lib.hasPrefix key.data.toList pre.data.toList = true
      · have hpre : pre.data.toList <+: key.data.toList := List.isPrefixOf_iff_prefix.mp hp
        have hle : pre.size ≤ key.size := by have := hpre.length_le; rwa [← Lib.size_eq, ← Lib.size_eq] at this
        rw [hp] at HP
        by_cases he : key.size = pre.size
        · have hK : key.data.toList = pre.data.toList := by
            have := List.prefix_iff_eq_take.mp hpre
            rw [this, ← Lib.size_eq, ← he, List.take_of_length_le (by simp)]
          have HV : Hid (lk key.data.toList l = ov) := by have := H2.out; rw [hK, hs.lk_own, ← hK] at this; exact this
          have heI : (key.size : Int) = (pre.size : Int) := by omega
          cases ov with
          | none =>
            obtain rfl : vp = none := hO
            clear hN hRow hl hC hs hp hpre hK he H1 H2
            go_wp2_with (first | (go_at_call 45; refine (HP.out _).mono ?_; rintro e w' ⟨rfl, rfl⟩) | (go_at_call 51; refine (own_nil t _ hc1).mono ?_; rintro e w' ⟨rfl, rfl⟩))
            go_ret2
            exact ⟨get_ret (by rw [HV.out]; rfl) (by rw [HV.out]; rfl), H3.out⟩
          | some v =>
            obtain ⟨vb, hvS, rfl, hvc⟩ := hO
            have hvc1 := hvc
            clear hN hRow hl hC hs hp hpre hK he H1 H2 hvc
            go_wp2_with (first | (go_at_call 45; refine (HP.out _).mono ?_; rintro e w' ⟨rfl, rfl⟩) | (go_at_call 51; refine (own_some t vb v _ hc1 hvc1).mono ?_; rintro e w' ⟨rfl, rfl⟩))
            go_ret2
            exact ⟨get_ret (by rw [HV.out]; rfl) (by rw [HV.out]; rfl), H3.out⟩
        · have hkl : pre.size < key.size := by omega
          have heI : ¬ (key.size : Int) = (pre.size : Int) := by omega
          have hb := branch_rep (key := key) (w := wr) hN hRow hl hC hs hk hkl hpre
          have HBr : Hid (Calls Tryz.prog 52 #[.pointer (some ⟨t, 0, none⟩), .string key] wr fun e w' => ∃ tp l'', e = .returned (.pointer tp) ∧ TreeN S g wr tp l'' ∧ lk key.data.toList l' = lk key.data.toList l'' ∧ Below wr.heap.size wr w') := hb
          clear hb hN hO hRow hl hC hs hp hpre he H1
          go_wp2_with (first | (go_at_call 45; refine (HP.out _).mono ?_; rintro e w' ⟨rfl, rfl⟩) | (go_at_call 52; refine HBr.out.mono ?_; rintro e w' ⟨tp2, l2, rfl, hT2, hlk2, hb2⟩; have HT2 : Hid (TreeN S g w' tp2 l2 ∧ lk key.data.toList l = lk key.data.toList l2 ∧ Below w.heap.size w w') := ⟨hT2.on hb2, H2.out.trans hlk2, H3.out.trans (hb2.mono H3.out.size)⟩; clear hT2 hlk2 hb2))
          go_roundg g
          case measure => omega
          case rel => exact ⟨tp2, l2, rfl, HT2.out.1, HT2.out.2.1, HT2.out.2.2⟩
      · have hpf : Lib.hasPrefix key.data.toList pre.data.toList = false := by simpa using hp
        have HE : Hid (lk key.data.toList l = none) := by have := H2.out; rw [hs.lk_front (fun h => hp (List.isPrefixOf_iff_prefix.mpr h))] at this; exact this
        rw [hpf] at HP
        clear hN hO hRow hl hC hs hp hpf H1 H2
        go_wp2_with (go_at_call 45; refine (HP.out _).mono ?_; rintro e w' ⟨rfl, rfl⟩)
        go_ret2
        exact ⟨get_ret (by rw [HE.out]; rfl) (by rw [HE.out]; rfl), H3.out⟩

end Go.Proofs.YtcgjppacnhmjlaaGreat
