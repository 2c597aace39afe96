/- Own texts: PGet, PPureC, PPureD. -/
import Derived.Test.YtcgjppacnhmjlaaFmAT
import Derived.Test.YtcgjppacnhmjlaaFmAR

section
set_option linter.unusedVariables false
set_option linter.unusedSimpArgs false
set_option linter.unusedSectionVars false
set_option linter.unusedVariables false
set_option linter.unusedSimpArgs false
namespace Go.Proofs.Ytcgjppacnhmjlaa
open Go.RowKit
variable {V : Type}

theorem Shaped.lk_front {p xs : List UInt8} {ov : Option V} {gs : List (List (List UInt8 × V))} {l : List (List UInt8 × V)} (h : Shaped p ov xs gs l) {k : List UInt8} (hk : ¬ p <+: k) : lk k l = none :=
  lk_none fun _ he hek => hk (hek ▸ h.front he)
theorem Shaped.lk_own {p xs : List UInt8} {ov : Option V} {gs : List (List (List UInt8 × V))} {l : List (List UInt8 × V)} (h : Shaped p ov xs gs l) : lk p l = ov := by
  cases ov with
  | some v => exact lk_some h.srt (h.mem.mpr (.inl ⟨rfl, rfl⟩))
  | none =>
    refine lk_none fun e he hek => ?_
    rcases h.mem.mp he with h1 | ⟨i, g, hg, h1⟩
    · cases h1.2
    · obtain ⟨x, hx⟩ := h.grps.byte hg
      obtain ⟨r, hr⟩ := h.grps.pre i x g hx hg e h1
      exact app_ne (hr.symm.trans hek)
theorem Shaped.lk_into {p xs : List UInt8} {ov : Option V} {gs : List (List (List UInt8 × V))} {l : List (List UInt8 × V)} (h : Shaped p ov xs gs l) {k r : List UInt8} {x : UInt8} (hk : k = p ++ x :: r) {i : Nat} (hx : xs[i]? = some x) {g : List (List UInt8 × V)} (hg : gs[i]? = some g) : lk k l = lk k g := by
  refine lk_congr h.srt (h.grps.srt i g hg) fun v => ⟨fun hm => ?_, fun hm => h.mem.mpr (.inr ⟨i, g, hg, hm⟩)⟩
  rcases h.mem.mp hm with h1 | ⟨j, m, hj, h1⟩
  · exact absurd (hk.symm.trans h1.1) app_ne
  · obtain ⟨y, hy⟩ := h.grps.byte hj
    obtain ⟨q, hq⟩ := h.grps.pre j y m hy hj _ h1
    obtain ⟨rfl, _⟩ := app_inj (hk.symm.trans hq)
    obtain rfl := pw_inj h.grps.pw hx hy
    rw [hg] at hj; cases hj; exact h1
theorem Shaped.lk_beside {p xs : List UInt8} {ov : Option V} {gs : List (List (List UInt8 × V))} {l : List (List UInt8 × V)} (h : Shaped p ov xs gs l) {k r : List UInt8} {x : UInt8} (hk : k = p ++ x :: r) (hx : xs[posOf x xs]? ≠ some x) : lk k l = none := by
  refine lk_none fun e he hek => ?_
  rcases h.mem.mp he with h1 | ⟨j, m, hj, h1⟩
  · exact app_ne (hk.symm.trans (hek.symm.trans h1.1))
  · obtain ⟨y, hy⟩ := h.grps.byte hj
    obtain ⟨q, hq⟩ := h.grps.pre j y m hy hj _ h1
    obtain ⟨rfl, _⟩ := app_inj (hk.symm.trans (hek.symm.trans hq))
    obtain ⟨_, s2, s3⟩ := posOf_spec x xs h.grps.pw
    have : posOf x xs = j := posOf_of x xs j (Nat.le_of_lt (List.getElem?_eq_some_iff.mp hy).1) (fun t z ht hz => pw_get h.grps.pw hz hy ht) (fun t z ht hz h3 => by
      rcases Nat.lt_or_eq_of_le ht with h4 | h4
      · exact UInt8.lt_irrefl x (UInt8.lt_trans (pw_get h.grps.pw hy hz h4) h3)
      · rw [← h4, hy] at hz; cases hz; exact UInt8.lt_irrefl x h3)
    rw [this] at hx; exact hx hy

set_option maxHeartbeats 400000 in
theorem branch_found {w : World} {t pos k o cap c len : Nat} {key : ByteArray} (hbc : w.cell? ⟨t, 2, none⟩ = some (.slice (some ⟨k, o, none⟩) len cap)) (hcc : w.cell? ⟨k, o + pos, none⟩ = some (.pointer (some ⟨c, 0, none⟩))) (hpos : pos < len) (hlc : len ≤ 256)
    (hP : Calls Try.prog 102 #[.pointer (some ⟨t, 0, none⟩), .string key] w fun e w' => e = .returned (.tuple #[.int .i64 pos, .bool true]) ∧ Below w.heap.size w w') :
    Calls Try.prog 83 #[.pointer (some ⟨t, 0, none⟩), .string key] w fun e w' => e = .returned (.pointer (some ⟨c, 0, none⟩)) ∧ Below w.heap.size w w' := by
  have HP : Hid (Calls Try.prog 102 #[.pointer (some ⟨t, 0, none⟩), .string key] w fun e w' => e = .returned (.tuple #[.int .i64 pos, .bool true]) ∧ Below w.heap.size w w') := hP
  have HC : Hid (w.cell? ⟨t, 2, none⟩ = some (.slice (some ⟨k, o, none⟩) len cap) ∧ w.cell? ⟨k, o + pos, none⟩ = some (.pointer (some ⟨c, 0, none⟩))) := ⟨hbc, hcc⟩
  clear hP hbc hcc
  go_enter Try.func83, Try.ntmps83
  go_wp2_with (go_at_call 102; refine HP.out.mono ?_; rintro e w2 ⟨rfl, hbel⟩; have hb2 := cell_later hbel HC.out.1; have hc2 := cell_later hbel HC.out.2)
  go_ret
  exact ⟨rfl, hbel⟩
set_option maxHeartbeats 400000 in
theorem branch_none {w : World} {t pos : Nat} {key : ByteArray}
    (hP : Calls Try.prog 102 #[.pointer (some ⟨t, 0, none⟩), .string key] w fun e w' => e = .returned (.tuple #[.int .i64 pos, .bool false]) ∧ Below w.heap.size w w') :
    Calls Try.prog 83 #[.pointer (some ⟨t, 0, none⟩), .string key] w fun e w' => e = .returned (.pointer none) ∧ Below w.heap.size w w' := by
  have HP : Hid (Calls Try.prog 102 #[.pointer (some ⟨t, 0, none⟩), .string key] w fun e w' => e = .returned (.tuple #[.int .i64 pos, .bool false]) ∧ Below w.heap.size w w') := hP
  clear hP
  go_enter Try.func83, Try.ntmps83
  go_wp2_with (go_at_call 102; refine HP.out.mono ?_; rintro e w2 ⟨rfl, hbel⟩)
  go_ret
  exact ⟨rfl, hbel⟩

/-- The tree that a pointer holds, nil the one of no key. -/
def TreeN (S : Nat → Prop) (n : Nat) (w : World) (tp : Option Addr) (l : List KV) : Prop := (tp = none ∧ l = []) ∨ ∃ t, tp = some ⟨t, 0, none⟩ ∧ RepN S n w t l

theorem TreeN.on {S : Nat → Prop} {n : Nat} {w w' : World} {tp : Option Addr} {l : List KV} (h : TreeN S n w tp l) (hb : Below w.heap.size w w') : TreeN S n w' tp l := by
  rcases h with h | ⟨t, h1, h2⟩
  · exact .inl h
  · exact .inr ⟨t, h1, h2.on hb⟩

/-- branch leads to a tree with the same value of the key. -/
theorem branch_rep {S : Nat → Prop} {w : World} {n t : Nat} {pre : ByteArray} {vp : Option Addr} {bv : Value} {ov : Option Plc} {cs : List Nat} {xs : List UInt8} {gs : List (List KV)} {l : List KV} {key : ByteArray} (hN : NodeAt S w t pre vp bv l.length) (hR : RowAt S w bv cs) (hl : cs.length = gs.length)
    (hC : ∀ (i c : Nat) g, cs[i]? = some c → gs[i]? = some g → RepN S n w c g) (hs : Shaped pre.data.toList ov xs gs l) (hk : key.size ≤ 9223372036854775807) (hkl : pre.size < key.size) (hpre : pre.data.toList <+: key.data.toList) :
    Calls Try.prog 83 #[.pointer (some ⟨t, 0, none⟩), .string key] w fun e w' => ∃ tp l', e = .returned (.pointer tp) ∧ TreeN S n w tp l' ∧ lk key.data.toList l = lk key.data.toList l' ∧ Below w.heap.size w w' := by
  have hkey := key_parts key pre.size hkl
  have hP : pre.data.toList = key.data.toList.take pre.size := by rw [Lib.size_eq]; exact (List.prefix_iff_eq_take.mp hpre)
  rw [← hP] at hkey
  have hB : BytesAt w pre.size cs xs := by rw [Lib.size_eq]; exact repBytes hl hC hs.grps
  have hcs : cs.length ≤ 256 := by have := pw_len hs.grps.pw; have := hs.grps.len; omega
  have hpl := place_rep (S := S) (n := n) hN.c0 hN.c2 hR hB hs.grps.pw hk hkl
  by_cases hf : xs[posOf key[pre.size] xs]? = some key[pre.size]
  · obtain ⟨g, hg⟩ := hs.grps.grp hf
    have hpos : posOf key[pre.size] xs < cs.length := by rw [hl]; exact (List.getElem?_eq_some_iff.mp hg).1
    have hci : cs[posOf key[pre.size] xs]? = some cs[posOf key[pre.size] xs] := List.getElem?_eq_getElem hpos
    rcases hR with ⟨rfl, _⟩ | ⟨k, o, cap, h1, rfl, h3, h4, h5, h6⟩
    · simp at hpos
    rw [hf] at hpl
    refine (branch_found hN.c2 (h5 _ _ hci) hpos hcs (hpl.mono fun e w' h => ⟨by rw [h.1]; simp, h.2⟩)).mono ?_
    rintro e w' ⟨rfl, hb⟩
    exact ⟨_, g, rfl, .inr ⟨_, rfl, hC _ _ _ hci hg⟩, hs.lk_into hkey hf hg, hb⟩
  · rw [decide_eq_false hf] at hpl
    refine (branch_none hpl).mono ?_
    rintro e w' ⟨rfl, hb⟩
    exact ⟨none, [], rfl, .inl ⟨rfl, rfl⟩, by rw [hs.lk_beside hkey hf]; rfl, hb⟩


/-- The zero value beside no value. -/
def valOr (o : Option Plc) : Plc := o.getD pl0

theorem get_ret {a : Plc} {f : Bool} {o : Option Plc} (h : a = valOr o) (h2 : f = o.isSome) : Ending.returned (.tuple #[plc a, .bool f]) = .returned (.tuple #[plc (valOr o), .bool o.isSome]) := by rw [h, h2]

set_option maxRecDepth 100000 in
set_option maxHeartbeats 1000000 in
theorem get_any {S : Nat → Prop} {w : World} {n : Nat} {tp : Option Addr} {l : List KV} {key : ByteArray} (hT : TreeN S n w tp l) (hk : key.size ≤ 9223372036854775807) :
    Calls Try.prog 46 #[.pointer tp, .string key] w fun e w' => e = .returned (.tuple #[plc (valOr (lk key.data.toList l)), .bool (lk key.data.toList l).isSome]) ∧ Below w.heap.size w w' := by
  have hb0 := below_alloc w (pbox pl0)
  have HT : Hid (TreeN S n (w.alloc (pbox pl0)) tp l) := hT.on hb0
  have HX : Hid ((w.alloc (pbox pl0)).heap[w.heap.size]? = some (pbox pl0)) := heap_alloc_new w (pbox pl0)
  have HB0 : Hid (Below w.heap.size w (w.alloc (pbox pl0))) := hb0
  clear hT hb0
  go_enter Try.func46, Try.ntmps46
  go_wp2
  go_loopg [0] n (fun gk tv wr => ∃ tp' l', tv = .pointer tp' ∧ Hid (TreeN S gk wr tp' l') ∧ Hid (lk key.data.toList l = lk key.data.toList l') ∧ Hid (Below (w.alloc (pbox pl0)).heap.size (w.alloc (pbox pl0)) wr))
  case atStart => exact ⟨tp, l, rfl, HT, rfl, Below.refl _ _⟩
  case round =>
    obtain ⟨tp', l', rfl, H1, H2, H3⟩ := hrel
    have HR : Hid (wr.heap[w.heap.size]? = some (pbox pl0)) := (H3.out.block _ (by simp)).trans HX.out
    have HW : Hid (Below w.heap.size w wr) := HB0.out.trans (H3.out.mono (by simp))
    have hsz : w.heap.size < wr.heap.size := (Array.getElem?_eq_some_iff.1 HR.out).1
    rcases H1.out with ⟨rfl, h0⟩ | ⟨t, rfl, hR⟩
    · have HE : Hid (lk key.data.toList l = none) := by have := H2.out; rw [h0] at this; exact this
      obtain ⟨r0, r1, r2⟩ := pbox_cells HR.out
      have fr := pbox_free HR.out
      clear h0
      go_wp2
      exact bodyPost_ret (v := .tuple #[plc pl0, .bool false]) (by simp [results, Try.results46, go_sem, r0, r1, r2, fr, hsz]) rfl ⟨get_ret (by rw [HE.out]; rfl) (by rw [HE.out]; rfl), (((HW.out.setCell (by simp) _).setCell (by simp) _).setCell (by simp) _).alloc (by simp; omega) _⟩
    · obtain ⟨g, rfl⟩ : ∃ g, gk = g + 1 := by cases gk with
        | zero => exact hR.elim
        | succ g => exact ⟨g, rfl⟩
      obtain ⟨pre, vp, bv, ov, cs, xs, gs, hN, hO, hRow, hl, hC, hs⟩ := hR
      have hc0 := hN.c0
      have hc1 := hN.c1
      have hps := hN.short
      have HP : Hid (∀ w1, Calls Try.prog 64 #[.string key, .string pre] w1 fun e w' => e = .returned (.bool (Lib.hasPrefix key.data.toList pre.data.toList)) ∧ w' = w1) := fun w1 => hasPrefix_any key pre w1 hk (by unfold maxLen; omega)
      by_cases hp : Lib.hasPrefix key.data.toList pre.data.toList = true
      · have hpre : pre.data.toList <+: key.data.toList := List.isPrefixOf_iff_prefix.mp hp
        have hle : pre.size ≤ key.size := by have := hpre.length_le; rwa [← Lib.size_eq, ← Lib.size_eq] at this
        rw [hp] at HP
        by_cases he : key.size = pre.size
        · have hK : key.data.toList = pre.data.toList := hpre.eq_of_length (by rw [← Lib.size_eq, ← Lib.size_eq]; omega) |>.symm
          have heI : (key.size : Int) = (pre.size : Int) := by omega
          have HV : Hid (lk key.data.toList l = ov) := by have := H2.out; rw [hK, hs.lk_own, ← hK] at this; exact this
          cases ov with
          | none =>
            have hvp : vp = none := hO
            subst hvp
            have HO : Hid (Calls Try.prog 82 #[.pointer (some ⟨t, 0, none⟩)] wr fun e w' => e = .returned (.tuple #[plc pl0, .bool false]) ∧ Below wr.heap.size wr w') := own_nil t wr hc1
            clear hN hRow hl hC hs hp hpre hK he H1 H2 hO hc1
            go_wp2_with (first | (go_at_call 64; refine (HP.out _).mono ?_; rintro e w' ⟨rfl, rfl⟩) | (go_at_call 82; refine HO.out.mono ?_; rintro e w2 ⟨rfl, hbo⟩; have HR2 : Hid (w2.heap[w.heap.size]? = some (pbox pl0)) := (hbo.block _ hsz).trans HR.out; obtain ⟨r0, r1, r2⟩ := pbox_cells HR2.out; have fr := pbox_free HR2.out; have HW2 : Hid (Below w.heap.size w w2) := HW.out.trans (hbo.mono (by omega)); clear hbo))
            exact bodyPost_ret (v := .tuple #[plc pl0, .bool false]) (by simp [results, Try.results46, go_sem, r0, r1, r2, fr]) rfl ⟨get_ret (by rw [HV.out]; rfl) (by rw [HV.out]; rfl), ((HW2.out.setCell (by simp) _).setCell (by simp) _).setCell (by simp) _⟩
          | some v =>
            obtain ⟨vb, hvb, rfl, hvc⟩ := hO
            have HO : Hid (Calls Try.prog 82 #[.pointer (some ⟨t, 0, none⟩)] wr fun e w' => e = .returned (.tuple #[plc v, .bool true]) ∧ Below wr.heap.size wr w') := own_some t vb v wr hc1 hvc
            clear hN hRow hl hC hs hp hpre hK he H1 H2 hvc hc1
            go_wp2_with (first | (go_at_call 64; refine (HP.out _).mono ?_; rintro e w' ⟨rfl, rfl⟩) | (go_at_call 82; refine HO.out.mono ?_; rintro e w2 ⟨rfl, hbo⟩; have HR2 : Hid (w2.heap[w.heap.size]? = some (pbox pl0)) := (hbo.block _ hsz).trans HR.out; obtain ⟨r0, r1, r2⟩ := pbox_cells HR2.out; have fr := pbox_free HR2.out; have HW2 : Hid (Below w.heap.size w w2) := HW.out.trans (hbo.mono (by omega)); clear hbo))
            exact bodyPost_ret (v := .tuple #[plc v, .bool true]) (by simp [results, Try.results46, go_sem, r0, r1, r2, fr]) rfl ⟨get_ret (by rw [HV.out]; rfl) (by rw [HV.out]; rfl), ((HW2.out.setCell (by simp) _).setCell (by simp) _).setCell (by simp) _⟩
        · have hkl : pre.size < key.size := by omega
          have heI : ¬ (key.size : Int) = (pre.size : Int) := by omega
          have hb := branch_rep (key := key) (w := wr) hN hRow hl hC hs hk hkl hpre
          have HBr : Hid (Calls Try.prog 83 #[.pointer (some ⟨t, 0, none⟩), .string key] wr fun e w' => ∃ tp l'', e = .returned (.pointer tp) ∧ TreeN S g wr tp l'' ∧ lk key.data.toList l' = lk key.data.toList l'' ∧ Below wr.heap.size wr w') := hb
          have hsz1 : (w.alloc (pbox pl0)).heap.size ≤ wr.heap.size := H3.out.size
          clear hb hN hO hRow hl hC hs hp hpre he H1
          go_wp2_with (first | (go_at_call 64; refine (HP.out _).mono ?_; rintro e w' ⟨rfl, rfl⟩) | (go_at_call 83; refine HBr.out.mono ?_; rintro e w' ⟨tp2, l2, rfl, hT2, hlk2, hb2⟩; have HT2 : Hid (TreeN S g w' tp2 l2 ∧ lk key.data.toList l = lk key.data.toList l2 ∧ Below (w.alloc (pbox pl0)).heap.size (w.alloc (pbox pl0)) w') := ⟨hT2.on hb2, H2.out.trans hlk2, H3.out.trans (hb2.mono hsz1)⟩; clear hT2 hlk2 hb2))
          go_roundg g
          case measure => omega
          case rel => exact ⟨tp2, l2, rfl, HT2.out.1, HT2.out.2.1, HT2.out.2.2⟩
      · have hpf : Lib.hasPrefix key.data.toList pre.data.toList = false := by simpa using hp
        have HE : Hid (lk key.data.toList l = none) := by have := H2.out; rw [hs.lk_front (fun h => hp (List.isPrefixOf_iff_prefix.mpr h))] at this; exact this
        rw [hpf] at HP
        obtain ⟨r0, r1, r2⟩ := pbox_cells HR.out
        have fr := pbox_free HR.out
        clear hN hO hRow hl hC hs hp hpf H1 H2
        go_wp2_with (go_at_call 64; refine (HP.out _).mono ?_; rintro e w' ⟨rfl, rfl⟩)
        exact bodyPost_ret (v := .tuple #[plc pl0, .bool false]) (by simp [results, Try.results46, go_sem, r0, r1, r2, fr, hsz]) rfl ⟨get_ret (by rw [HE.out]; rfl) (by rw [HE.out]; rfl), (((HW.out.setCell (by simp) _).setCell (by simp) _).setCell (by simp) _).alloc (by simp; omega) _⟩

end Go.Proofs.Ytcgjppacnhmjlaa
end

section
set_option linter.unusedVariables false
set_option linter.unusedSimpArgs false
set_option linter.unusedSectionVars false
set_option linter.unusedVariables false
set_option linter.unusedSimpArgs false
namespace Go.Proofs.Ytcgjppacnhmjlaa
variable {V : Type}

theorem Shaped.del_own {p xs : List UInt8} {ov : Option V} {gs : List (List (List UInt8 × V))} {l : List (List UInt8 × V)} (h : Shaped p ov xs gs l) : del p l = gs.flatten := by
  refine (del_eq h.srt h.grps.srtFlat fun e => ?_).symm
  rw [h.eq, List.mem_append, mem_ownL]
  constructor
  · intro h1
    obtain ⟨x, r, hr⟩ := h.grps.front h1
    exact ⟨.inr h1, hr ▸ app_ne⟩
  · rintro ⟨h1 | h1, h2⟩
    · exact absurd h1.1 h2
    · exact h1
theorem Shaped.without {p xs : List UInt8} {ov : Option V} {gs : List (List (List UInt8 × V))} {l : List (List UInt8 × V)} (h : Shaped p ov xs gs l) (h2 : 2 ≤ gs.length) : Shaped p none xs gs (del p l) :=
  ⟨h.grps, by rw [h.del_own]; rfl, fun _ => h2⟩
theorem getElem?_cut {α : Type} (L : List α) (i j : Nat) (hi : i < L.length) : (L.take i ++ L.drop (i + 1))[j]? = if j < i then L[j]? else L[j + 1]? := by
  by_cases h1 : j < i
  · rw [if_pos h1, List.getElem?_append_left (by simp; omega), List.getElem?_take, if_pos h1]
  · rw [if_neg h1, List.getElem?_append_right (by simp; omega), List.getElem?_drop]
    congr 1; simp; omega
theorem len_cut {α : Type} (L : List α) (i : Nat) (hi : i < L.length) : (L.take i ++ L.drop (i + 1)).length + 1 = L.length := by simp; omega
/-- Whose key is in a group it is that group's. -/
theorem Shaped.home {p xs : List UInt8} {ov : Option V} {gs : List (List (List UInt8 × V))} {l : List (List UInt8 × V)} (h : Shaped p ov xs gs l) {k r : List UInt8} {x : UInt8} (hk : k = p ++ x :: r) {i : Nat} (hx : xs[i]? = some x) {j : Nat} {m : List (List UInt8 × V)} (hj : gs[j]? = some m) {e : List UInt8 × V} (he : e ∈ m) (hek : e.1 = k) : j = i := by
  obtain ⟨y, hy⟩ := h.grps.byte hj
  obtain ⟨q, hq⟩ := h.grps.pre j y m hy hj e he
  rw [hek, hk] at hq
  obtain ⟨rfl, _⟩ := app_inj hq
  exact pw_inj h.grps.pw hy hx
theorem Shaped.del_into {p xs : List UInt8} {ov : Option V} {gs : List (List (List UInt8 × V))} {l : List (List UInt8 × V)} (h : Shaped p ov xs gs l) {k r : List UInt8} {x : UInt8} (hk : k = p ++ x :: r) {i : Nat} (hx : xs[i]? = some x) {g : List (List UInt8 × V)} (hg : gs[i]? = some g) (hne : del k g ≠ []) :
    Shaped p ov xs (gs.take i ++ del k g :: gs.drop (i + 1)) (del k l) := by
  have hi := (List.getElem?_eq_some_iff.mp hg).1
  have gr := getElem?_rep gs i
  have G : Grps p xs (gs.take i ++ del k g :: gs.drop (i + 1)) := by
    refine ⟨by rw [h.grps.len]; simp; omega, h.grps.pw, fun j m hm => ?_, fun j y m hy hm => ?_, fun j m hm => ?_⟩ <;> rw [gr _ _ hi] at hm
    · by_cases e : j = i
      · rw [if_pos e] at hm; obtain rfl := Option.some.inj hm; exact hne
      · rw [if_neg e] at hm; exact h.grps.some' j m hm
    · by_cases e : j = i
      · rw [if_pos e] at hm; obtain rfl := Option.some.inj hm
        subst e
        exact fun e he => h.grps.pre _ _ g hy hg e (mem_del.mp he).1
      · rw [if_neg e] at hm; exact h.grps.pre j y m hy hm
    · by_cases e : j = i
      · rw [if_pos e] at hm; obtain rfl := Option.some.inj hm
        exact srt_del (h.grps.srt i g hg)
      · rw [if_neg e] at hm; exact h.grps.srt j m hm
  refine ⟨G, (del_eq h.srt (G.srtAll ov) fun e => ?_).symm, fun h3 => by have := h.two h3; simp; omega⟩
  rw [List.mem_append, mem_ownL, mem_flat, h.mem]
  constructor
  · rintro (h1 | ⟨j, m, hm, he⟩)
    · exact ⟨.inl h1, by rw [h1.1, hk]; exact app_ne.symm⟩
    · rw [gr _ _ hi] at hm
      by_cases ej : j = i
      · rw [if_pos ej] at hm; obtain rfl := Option.some.inj hm
        exact ⟨.inr ⟨i, g, hg, (mem_del.mp he).1⟩, (mem_del.mp he).2⟩
      · rw [if_neg ej] at hm
        exact ⟨.inr ⟨j, m, hm, he⟩, fun h3 => ej (h.home hk hx hm he h3)⟩
  · rintro ⟨h1 | ⟨j, m, hm, he⟩, h2⟩
    · exact .inl h1
    · by_cases ej : j = i
      · subst ej; rw [hg] at hm; obtain rfl := Option.some.inj hm
        exact .inr ⟨j, del k g, by rw [gr _ _ hi, if_pos rfl], mem_del.mpr ⟨he, h2⟩⟩
      · exact .inr ⟨j, m, by rw [gr _ _ hi, if_neg ej]; exact hm, he⟩
/-- A group goes whole. -/
theorem Shaped.del_away {p xs : List UInt8} {ov : Option V} {gs : List (List (List UInt8 × V))} {l : List (List UInt8 × V)} (h : Shaped p ov xs gs l) {k r : List UInt8} {x : UInt8} (hk : k = p ++ x :: r) {i : Nat} (hx : xs[i]? = some x) {g : List (List UInt8 × V)} (hg : gs[i]? = some g) (hne : del k g = []) :
    Grps p (xs.take i ++ xs.drop (i + 1)) (gs.take i ++ gs.drop (i + 1)) ∧ del k l = ownL p ov ++ (gs.take i ++ gs.drop (i + 1)).flatten := by
  have hi := (List.getElem?_eq_some_iff.mp hg).1
  have hix : i < xs.length := by rw [h.grps.len]; exact hi
  have gr := getElem?_cut gs i
  have G : Grps p (xs.take i ++ xs.drop (i + 1)) (gs.take i ++ gs.drop (i + 1)) := by
    refine ⟨by have := h.grps.len; simp; omega, ?_, fun j m hm => ?_, fun j y m hy hm => ?_, fun j m hm => ?_⟩
    · refine List.Pairwise.sublist ?_ h.grps.pw
      conv => rhs; rw [← List.take_append_drop i xs]
      exact List.Sublist.append_left (by rw [List.drop_eq_getElem_cons hix]; exact List.sublist_cons_self _ _) _
    all_goals (rw [gr _ hi] at hm; split at hm)
    · exact h.grps.some' _ m hm
    · exact h.grps.some' _ m hm
    · rw [getElem?_cut _ _ _ hix, if_pos ‹_›] at hy; exact h.grps.pre _ y m hy hm
    · rw [getElem?_cut _ _ _ hix, if_neg ‹_›] at hy; exact h.grps.pre _ y m hy hm
    · exact h.grps.srt _ m hm
    · exact h.grps.srt _ m hm
  refine ⟨G, (del_eq h.srt (G.srtAll ov) fun e => ?_).symm⟩
  rw [List.mem_append, mem_ownL, mem_flat, h.mem]
  constructor
  · rintro (h1 | ⟨j, m, hm, he⟩)
    · exact ⟨.inl h1, by rw [h1.1, hk]; exact app_ne.symm⟩
    · rw [gr _ hi] at hm
      by_cases ej : j < i
      · rw [if_pos ej] at hm
        exact ⟨.inr ⟨j, m, hm, he⟩, fun h3 => by have := h.home hk hx hm he h3; omega⟩
      · rw [if_neg ej] at hm
        exact ⟨.inr ⟨j + 1, m, hm, he⟩, fun h3 => by have := h.home hk hx hm he h3; omega⟩
  · rintro ⟨h1 | ⟨j, m, hm, he⟩, h2⟩
    · exact .inl h1
    · rcases Nat.lt_trichotomy j i with h3 | h3 | h3
      · exact .inr ⟨j, m, by rw [gr _ hi, if_pos h3]; exact hm, he⟩
      · subst h3; rw [hg] at hm; obtain rfl := Option.some.inj hm
        have : e ∈ del k g := mem_del.mpr ⟨he, h2⟩
        rw [hne] at this; cases this
      · refine .inr ⟨j - 1, m, ?_, he⟩
        rw [gr _ hi, if_neg (by omega), show j - 1 + 1 = j by omega]; exact hm
theorem len_del {k : List UInt8} {l : List (List UInt8 × V)} (hs : Srt l) {v : V} (h : lk k l = some v) : (del k l).length + 1 = l.length := by
  have hm := lk_mem h
  clear h
  induction l with
  | nil => cases hm
  | cons e r ih =>
    obtain ⟨h1, h2⟩ := List.pairwise_cons.mp hs
    unfold del
    rw [List.filter_cons]
    by_cases he : e.1 = k
    · rw [if_neg (by simpa using he)]
      have : (r.filter fun e => decide (e.1 ≠ k)) = r := List.filter_eq_self.mpr fun e' he' => by
        simp; intro h3; have := h1 e' he'; rw [he, h3] at this; exact klt_irrefl _ this
      rw [this]; rfl
    · rw [if_pos (by simpa using he)]
      have := ih h2 (by rcases List.mem_cons.mp hm with h3 | h3; exact absurd (congrArg Prod.fst h3.symm) he; exact h3)
      simp only [List.length_cons]; unfold del at this; omega

end Go.Proofs.Ytcgjppacnhmjlaa
end

section
set_option linter.unusedVariables false
set_option linter.unusedSimpArgs false
set_option linter.unusedSectionVars false
set_option linter.unusedVariables false
set_option linter.unusedSimpArgs false
namespace Go.Proofs.Ytcgjppacnhmjlaa
variable {V : Type}

theorem sorted_ext : ∀ {a b : List UInt8}, a.Pairwise (· < ·) → b.Pairwise (· < ·) → (∀ x, x ∈ a ↔ x ∈ b) → a = b
  | [], [], _, _, _ => rfl
  | [], x :: r, _, _, h => absurd ((h x).mpr List.mem_cons_self) (by simp)
  | x :: r, [], _, _, h => absurd ((h x).mp List.mem_cons_self) (by simp)
  | x :: r, y :: q, ha, hb, h => by
    obtain ⟨h1, h2⟩ := List.pairwise_cons.mp ha
    obtain ⟨k1, k2⟩ := List.pairwise_cons.mp hb
    have hxy : x = y := by
      rcases List.mem_cons.mp ((h x).mp List.mem_cons_self) with e | e
      · exact e
      · rcases List.mem_cons.mp ((h y).mpr List.mem_cons_self) with e2 | e2
        · exact e2.symm
        · exact absurd (UInt8.lt_trans (h1 y e2) (k1 x e)) (UInt8.lt_irrefl x)
    subst hxy
    rw [sorted_ext h2 k2 (fun z => by
      constructor
      · intro hz
        rcases List.mem_cons.mp ((h z).mp (List.mem_cons_of_mem _ hz)) with e | e
        · subst e; exact absurd (h1 _ hz) (UInt8.lt_irrefl _)
        · exact e
      · intro hz
        rcases List.mem_cons.mp ((h z).mpr (List.mem_cons_of_mem _ hz)) with e | e
        · subst e; exact absurd (k1 _ hz) (UInt8.lt_irrefl _)
        · exact e)]

theorem Grps.mem_byte {p xs : List UInt8} {gs : List (List (List UInt8 × V))} (h : Grps p xs gs) {x : UInt8} : x ∈ xs ↔ ∃ e ∈ gs.flatten, ∃ r, e.1 = p ++ x :: r := by
  constructor
  · intro hx
    obtain ⟨i, hi⟩ := List.mem_iff_getElem?.mp hx
    obtain ⟨g, hg⟩ := h.grp hi
    obtain ⟨e, he⟩ := List.exists_mem_of_ne_nil _ (h.some' i g hg)
    exact ⟨e, mem_flat.mpr ⟨i, g, hg, he⟩, h.pre i x g hi hg e he⟩
  · rintro ⟨e, he, r, hr⟩
    obtain ⟨i, g, hg, he⟩ := mem_flat.mp he
    obtain ⟨y, hy⟩ := h.byte hg
    obtain ⟨q, hq⟩ := h.pre i y g hy hg e he
    obtain ⟨rfl, _⟩ := app_inj (hr.symm.trans hq)
    exact List.mem_of_getElem? hy
theorem Grps.mem_group {p xs : List UInt8} {gs : List (List (List UInt8 × V))} (h : Grps p xs gs) {i : Nat} {x : UInt8} {g : List (List UInt8 × V)} (hx : xs[i]? = some x) (hg : gs[i]? = some g) {e : List UInt8 × V} : e ∈ g ↔ e ∈ gs.flatten ∧ ∃ r, e.1 = p ++ x :: r := by
  constructor
  · intro he
    exact ⟨mem_flat.mpr ⟨i, g, hg, he⟩, h.pre i x g hx hg e he⟩
  · rintro ⟨he, r, hr⟩
    obtain ⟨j, m, hm, he⟩ := mem_flat.mp he
    obtain ⟨y, hy⟩ := h.byte hm
    obtain ⟨q, hq⟩ := h.pre j y m hy hm e he
    obtain ⟨rfl, _⟩ := app_inj (hr.symm.trans hq)
    obtain rfl := pw_inj h.pw hx hy
    rw [hg] at hm; cases hm; exact he
/-- A list is parted in one way. -/
theorem Shaped.one {p q xs ys : List UInt8} {ov ou : Option V} {gs hs : List (List (List UInt8 × V))} {l : List (List UInt8 × V)} (h : Shaped p ov xs gs l) (k : Shaped q ou ys hs l) : p = q ∧ ov = ou ∧ xs = ys ∧ gs = hs := by
  have hpq : p = q := List.IsPrefix.eq_of_length_le (k.pre_of fun e he => h.front he) (h.pre_of fun e he => k.front he).length_le
  subst hpq
  have hov : ov = ou := by
    have a : ∀ {ov : Option V} {xs gs}, Shaped p ov xs gs l → ∀ v, ov = some v ↔ (p, v) ∈ l := by
      intro ov xs gs h v
      rw [h.mem]
      constructor
      · intro e; exact .inl ⟨rfl, e⟩
      · rintro (h1 | ⟨i, g, hg, h1⟩)
        · exact h1.2
        · obtain ⟨x, hx⟩ := h.grps.byte hg
          obtain ⟨r, hr⟩ := h.grps.pre i x g hx hg _ h1
          exact absurd hr app_ne.symm
    cases ov with
    | some v => exact ((a k v).mpr ((a h v).mp rfl)).symm
    | none => cases ou with
      | none => rfl
      | some v => exact (a h v).mpr ((a k v).mp rfl)
  subst hov
  have hfl : gs.flatten = hs.flatten := List.append_cancel_left (h.eq.symm.trans k.eq)
  have hxs : xs = ys := sorted_ext h.grps.pw k.grps.pw fun x => by rw [h.grps.mem_byte, k.grps.mem_byte, hfl]
  subst hxs
  refine ⟨rfl, rfl, rfl, List.ext_getElem? fun i => ?_⟩
  cases hg : gs[i]? with
  | none =>
    rw [List.getElem?_eq_none_iff] at hg
    rw [eq_comm, List.getElem?_eq_none_iff, ← k.grps.len, h.grps.len]; exact hg
  | some g =>
    obtain ⟨x, hx⟩ := h.grps.byte hg
    obtain ⟨m, hm⟩ := k.grps.grp hx
    rw [hm]
    congr 1
    exact Srt.ext (h.grps.srt i g hg) (k.grps.srt i m hm) fun e => by rw [h.grps.mem_group hx hg, k.grps.mem_group hx hm, hfl]

/-- Which count a node with so many branches goes into. -/
def kindIx (n : Nat) : Nat := if n ≤ 4 then 1 else if n ≤ 16 then 2 else if n ≤ 48 then 3 else 4
def one (i j : Nat) : Nat := if j = i then 1 else 0
def sumAt (cl : List (Nat → Nat)) (j : Nat) : Nat := (cl.map fun c => c j).sum
def maxOf (hl : List Nat) : Nat := hl.foldl max 0

/-- The tree of l has c j of each kind j, and the height h. -/
def ShapeOf : Nat → List (List UInt8 × V) → (Nat → Nat) → Nat → Prop
  | 0, _, _, _ => False
  | n + 1, l, c, h => ∃ (p : List UInt8) (ov : Option V) (xs : List UInt8) (gs : List (List (List UInt8 × V))), Shaped p ov xs gs l ∧
      ((gs = [] ∧ c = one 0 ∧ h = 1) ∨ (gs ≠ [] ∧ ∃ (cl : List (Nat → Nat)) (hl : List Nat), cl.length = gs.length ∧ hl.length = gs.length ∧ (∀ (i : Nat) g c' h', gs[i]? = some g → cl[i]? = some c' → hl[i]? = some h' → ShapeOf n g c' h') ∧ c = (fun j => sumAt cl j + one (kindIx gs.length) j) ∧ h = maxOf hl + 1))

theorem ShapeOf.uniq : ∀ {n m : Nat} {l : List (List UInt8 × V)} {c c' : Nat → Nat} {h h' : Nat}, ShapeOf n l c h → ShapeOf m l c' h' → c = c' ∧ h = h'
  | 0, _, _, _, _, _, _, H, _ => H.elim
  | _ + 1, 0, _, _, _, _, _, _, H => H.elim
  | n + 1, m + 1, l, c, c', h, h', ⟨p, ov, xs, gs, hs, H⟩, ⟨q, ou, ys, ks, hk, K⟩ => by
    obtain ⟨rfl, rfl, rfl, rfl⟩ := hs.one hk
    rcases H with ⟨h1, rfl, rfl⟩ | ⟨h1, cl, hl, l1, l2, hc, rfl, rfl⟩
    · rcases K with ⟨_, rfl, rfl⟩ | ⟨h2, _⟩
      · exact ⟨rfl, rfl⟩
      · exact absurd h1 h2
    · rcases K with ⟨h2, _⟩ | ⟨h2, cl', hl', l1', l2', hc', rfl, rfl⟩
      · exact absurd h2 h1
      · have : ∀ i : Nat, cl[i]? = cl'[i]? ∧ hl[i]? = hl'[i]? := by
          intro i
          by_cases hi : i < gs.length
          · have a1 : gs[i]? = some gs[i] := List.getElem?_eq_getElem hi
            have a2 : cl[i]? = some (cl[i]'(by omega)) := List.getElem?_eq_getElem _
            have a3 : hl[i]? = some (hl[i]'(by omega)) := List.getElem?_eq_getElem _
            have b2 : cl'[i]? = some (cl'[i]'(by omega)) := List.getElem?_eq_getElem _
            have b3 : hl'[i]? = some (hl'[i]'(by omega)) := List.getElem?_eq_getElem _
            obtain ⟨e1, e2⟩ := ShapeOf.uniq (hc i _ _ _ a1 a2 a3) (hc' i _ _ _ a1 b2 b3)
            rw [a2, a3, b2, b3, e1, e2]; exact ⟨rfl, rfl⟩
          · rw [List.getElem?_eq_none (by omega), List.getElem?_eq_none (by omega), List.getElem?_eq_none (by omega), List.getElem?_eq_none (by omega)]; exact ⟨rfl, rfl⟩
        have e1 : cl = cl' := List.ext_getElem? fun i => (this i).1
        have e2 : hl = hl' := List.ext_getElem? fun i => (this i).2
        subst e1; subst e2; exact ⟨rfl, rfl⟩

theorem sumAt_snoc (cl : List (Nat → Nat)) (c : Nat → Nat) (j : Nat) : sumAt (cl ++ [c]) j = sumAt cl j + c j := by simp [sumAt]
theorem maxOf_snoc (hl : List Nat) (h : Nat) : maxOf (hl ++ [h]) = max (maxOf hl) h := by simp [maxOf]
theorem maxOf_le {hl : List Nat} {b : Nat} (h : ∀ x ∈ hl, x ≤ b) : maxOf hl ≤ b := by
  have : ∀ (hl : List Nat) (a : Nat), a ≤ b → (∀ x ∈ hl, x ≤ b) → hl.foldl max a ≤ b := by
    intro hl
    induction hl with
    | nil => intro a ha _; exact ha
    | cons x r ih => intro a ha hr; exact ih _ (Nat.max_le.mpr ⟨ha, hr x List.mem_cons_self⟩) (fun y hy => hr y (List.mem_cons_of_mem _ hy))
  exact this hl 0 (Nat.zero_le _) h
theorem sumAt_le : ∀ {cl : List (Nat → Nat)} {gs : List (List (List UInt8 × V))}, cl.length = gs.length → (∀ (i : Nat) g c, gs[i]? = some g → cl[i]? = some c → ∀ j, c j + 1 ≤ 2 * g.length) → ∀ j, sumAt cl j + gs.length ≤ 2 * (gs.map List.length).sum
  | [], [], _, _, _ => by simp [sumAt]
  | [], _ :: _, h, _, _ => by simp at h
  | _ :: _, [], h, _, _ => by simp at h
  | c :: cl, g :: gs, h, hc, j => by
    have h1 := hc 0 g c rfl rfl j
    have h2 := sumAt_le (cl := cl) (gs := gs) (by simpa using h) (fun i g' c' a b => hc (i + 1) g' c' (by simpa using a) (by simpa using b)) j
    simp only [sumAt, List.map_cons, List.sum_cons, List.length_cons] at *
    omega
theorem ShapeOf.bounds : ∀ {n : Nat} {l : List (List UInt8 × V)} {c : Nat → Nat} {h : Nat}, ShapeOf n l c h → (∀ j, c j + 1 ≤ 2 * l.length) ∧ h ≤ l.length ∧ 1 ≤ l.length ∧ c 0 ≤ l.length
  | 0, _, _, _, H => H.elim
  | n + 1, l, c, h, ⟨p, ov, xs, gs, hs, H⟩ => by
    have hlen := hs.len
    rcases H with ⟨h1, rfl, rfl⟩ | ⟨h1, cl, hl, l1, l2, hc, rfl, rfl⟩
    · have : ov ≠ none := fun h0 => by have := hs.two h0; rw [h1] at this; simp at this
      obtain ⟨v, rfl⟩ := Option.ne_none_iff_exists'.mp this
      rw [h1] at hlen
      simp [ownL] at hlen
      refine ⟨fun j => ?_, by omega, by omega, by simp [one]; omega⟩
      unfold one; split <;> omega
    · have hb : ∀ (i : Nat) g c' h', gs[i]? = some g → cl[i]? = some c' → hl[i]? = some h' → (∀ j, c' j + 1 ≤ 2 * g.length) ∧ h' ≤ g.length ∧ 1 ≤ g.length ∧ c' 0 ≤ g.length := fun i g c' h' a1 a2 a3 => (hc i g c' h' a1 a2 a3).bounds
      have hh : ∀ (i : Nat) g, gs[i]? = some g → ∃ c' h', cl[i]? = some c' ∧ hl[i]? = some h' := by
        intro i g hg
        have hi := (List.getElem?_eq_some_iff.mp hg).1
        exact ⟨cl[i]'(by omega), hl[i]'(by omega), List.getElem?_eq_getElem _, List.getElem?_eq_getElem _⟩
      have hsum := sumAt_le l1 (fun i g c' a b j => by
        obtain ⟨c2, h2, b2, b3⟩ := hh i g a
        rw [b] at b2; cases b2
        exact (hb i g c' h2 a b b3).1 j)
      have hown : 2 ≤ 2 * (ownL p ov).length + gs.length := by
        cases ov with
        | none => exact Nat.le_trans (hs.two rfl) (Nat.le_add_left _ _)
        | some v => simp [ownL]
      have hone : ∀ j, one (kindIx gs.length) j ≤ 1 := fun j => by unfold one; split <;> omega
      have hpart : ∀ (i : Nat) g, gs[i]? = some g → g.length + 1 ≤ l.length := by
        intro i g hg
        have hi := (List.getElem?_eq_some_iff.mp hg).1
        have h3 : (gs.take i ++ gs.drop (i + 1)).length + 1 = gs.length := len_cut gs i hi
        have h4 : gs.flatten.length = (gs.take i).flatten.length + g.length + (gs.drop (i + 1)).flatten.length := by
          conv => lhs; rw [← List.take_append_drop i gs, List.drop_eq_getElem_cons hi]
          rw [List.flatten_append, List.flatten_cons, List.length_append, List.length_append]
          have : gs[i] = g := Option.some.inj ((List.getElem?_eq_getElem hi).symm.trans hg)
          rw [this]; omega
        have h5 : l.length = (ownL p ov).length + gs.flatten.length := by rw [hs.eq, List.length_append]
        cases ov with
        | some v => have h6 : (ownL p (some v)).length = 1 := rfl; omega
        | none =>
          have h6 := hs.two rfl
          have : 1 ≤ (gs.take i).flatten.length + (gs.drop (i + 1)).flatten.length := by
            obtain ⟨k, hk, m, hm⟩ : ∃ k, k ≠ i ∧ ∃ m, gs[k]? = some m := by
              by_cases e : i = 0
              · exact ⟨1, by omega, gs[1], List.getElem?_eq_getElem _⟩
              · exact ⟨0, by omega, gs[0], List.getElem?_eq_getElem _⟩
            have hm1 : 1 ≤ m.length := List.length_pos_iff.mpr (hs.grps.some' k m hm)
            rcases Nat.lt_or_ge k i with h7 | h7
            · have : m ∈ gs.take i := List.mem_of_getElem? (i := k) (by rw [List.getElem?_take, if_pos h7]; exact hm)
              have := (List.sublist_flatten_of_mem this).length_le
              omega
            · have : m ∈ gs.drop (i + 1) := List.mem_of_getElem? (i := k - (i + 1)) (by rw [List.getElem?_drop, show i + 1 + (k - (i + 1)) = k by omega]; exact hm)
              have := (List.sublist_flatten_of_mem this).length_le
              omega
          omega
      have hmax : maxOf hl + 1 ≤ l.length := by
        have hpos : 0 < gs.length := List.length_pos_iff.mpr h1
        have h0 : gs[0]? = some gs[0] := List.getElem?_eq_getElem _
        have hl1 := hpart 0 _ h0
        have : maxOf hl ≤ l.length - 1 := maxOf_le fun x hx => by
          obtain ⟨i, hi⟩ := List.mem_iff_getElem?.mp hx
          have hil := (List.getElem?_eq_some_iff.mp hi).1
          have hgi : gs[i]? = some (gs[i]'(by omega)) := List.getElem?_eq_getElem _
          obtain ⟨c2, h2, b2, b3⟩ := hh i _ hgi
          rw [hi] at b3; cases b3
          have := (hb i _ c2 x hgi b2 hi).2.1
          have := hpart i _ hgi
          omega
        omega
      have hl1 : 1 ≤ l.length := by omega
      refine ⟨fun j => ?_, hmax, hl1, ?_⟩
      · show sumAt cl j + one (kindIx gs.length) j + 1 ≤ _
        have := hsum j; have := hone j; omega
      · have hz : one (kindIx gs.length) 0 = 0 := by unfold one kindIx; rw [if_neg]; split <;> (try split) <;> (try split) <;> omega
        have : ∀ {cl : List (Nat → Nat)} {gs : List (List (List UInt8 × V))}, cl.length = gs.length → (∀ (i : Nat) g c, gs[i]? = some g → cl[i]? = some c → c 0 ≤ g.length) → sumAt cl 0 ≤ (gs.map List.length).sum := by
          intro cl
          induction cl with
          | nil => intro gs _ _; simp [sumAt]
          | cons c cl ih =>
            intro gs hh hc
            cases gs with
            | nil => simp at hh
            | cons g gs =>
              have h1 := hc 0 g c rfl rfl
              have h2 := ih (gs := gs) (by simpa using hh) (fun i g' c' a b => hc (i + 1) g' c' (by simpa using a) (by simpa using b))
              simp only [sumAt, List.map_cons, List.sum_cons] at *
              omega
        have := this l1 (fun i g c' a b => by
          obtain ⟨c2, h2, b2, b3⟩ := hh i g a
          rw [b] at b2; cases b2
          exact (hb i g c' h2 a b b3).2.2.2)
        simp only [hz]; omega

end Go.Proofs.Ytcgjppacnhmjlaa
end
