/- Reading: Read, Decode. -/
import Derived.Test.YtcgjppacnhmjlaaTupD
set_option linter.unusedVariables false
set_option linter.unusedSimpArgs false
namespace Go.Proofs.Ytcgjppacnhmjlaa
open Go.RowKit Go.Shelf
attribute [local go_sem ↓] Go.wp_at_zero Go.wp_at_succ

def flatV (vs : List ValD) : List Value := vs.flatMap cellsV
theorem flatV_len (vs : List ValD) : (flatV vs).length = vs.length * 3 := by
  induction vs with
  | nil => rfl
  | cons v vs ih => simp [flatV, cellsV] at ih ⊢; omega
theorem flatV_snoc (vs : List ValD) (v : ValD) : flatV (vs ++ [v]) = flatV vs ++ cellsV v := by simp [flatV]
theorem rdAll_len : ∀ {ks : List Int} {t : Bs} {vs : List ValD}, rdAll ks t = some vs → vs.length = ks.length
  | [], t, vs, h => by
    rw [rdAll] at h
    split at h
    · cases h; rfl
    · cases h
  | k :: ks, t, vs, h => by
    rw [rdAll] at h
    split at h
    · cases h
    · obtain ⟨us, hu, rfl⟩ := Option.map_eq_some_iff.mp h
      simp [rdAll_len hu]
/-- A row of values at v. -/
abbrev RowV (w : World) (v : Value) (vs : List ValD) : Prop := w.ownsRow 0 62 3 v vs.length (flatV vs)
theorem rowOn {w w' : World} {e : TypeId} {size n base : Nat} {v : Value} {xs : List Value} (h : w.ownsRow base e size v n xs) (hb : ∀ g, v.ownBlock = some g → w'.heap[g]? = w.heap[g]?) : w'.ownsRow base e size v n xs := by
  obtain ⟨h0, h1 | ⟨g', cap', cur, h1, h2, h3, h4⟩⟩ := h
  · exact ⟨h0, .inl h1⟩
  · exact ⟨h0, .inr ⟨g', cap', cur, h1, h2, (hb g' (by rw [h1]; rfl)).trans h3, h4⟩⟩
theorem rowLt {w : World} {e : TypeId} {size n base g : Nat} {v : Value} {xs : List Value} (h : w.ownsRow base e size v n xs) (hg : v.ownBlock = some g) : g < w.heap.size := by
  obtain ⟨h0, h1 | ⟨g', cap', cur, h1, h2, h3, h4⟩⟩ := h
  · rw [h1.1] at hg; cases hg
  · rw [h1] at hg; cases hg
    exact (Array.getElem?_eq_some_iff.mp h3).1
theorem rowCells {w : World} {g n cap base m size : Nat} {e : TypeId} {xs : List Value} (h : w.ownsRow base e size (.slice (some ⟨g, 0, none⟩) n cap) m xs) {j : Nat} {u : Value} (hj : xs[j]? = some u) : w.cell? ⟨g, j, none⟩ = some u := by
  obtain ⟨h0, h1 | ⟨g', cap', cur, h1, h2, h3, h4, h5, h6, h7⟩⟩ := h
  · cases h1.1
  · cases h1
    rw [← h7, List.getElem?_take] at hj
    split at hj
    · simp only [World.cell?, h3]
      rw [← Array.getElem?_toList, hj]
      rfl
    · cases hj
theorem infoV : (Try.prog.info? 62).map (fun i => (i.zero, i.size, i.bytes)) = some (some (.agg #[.int .u64 0, .int .i64 0, .string ⟨#[]⟩]), 3, 32) := by kernel_rfl
theorem set3_take {xs : List Value} {i : Nat} {a b c : Value} (h : i * 3 + 2 < xs.length) : (((xs.set (i * 3) a).set (i * 3 + 1) b).set (i * 3 + 2) c).take ((i + 1) * 3) = xs.take (i * 3) ++ [a, b, c] := by
  have hl : (xs.take (i * 3)).length = i * 3 := by rw [List.length_take]; omega
  apply List.ext_getElem?
  intro j
  rw [List.getElem?_take]
  by_cases h1 : j < i * 3
  · rw [if_pos (by omega), List.getElem?_append_left (by omega), List.getElem?_take, if_pos h1, List.getElem?_set_ne (by omega), List.getElem?_set_ne (by omega), List.getElem?_set_ne (by omega)]
  · by_cases h2 : j < (i + 1) * 3
    · rw [if_pos h2, List.getElem?_append_right (by omega), hl]
      have : j = i * 3 ∨ j = i * 3 + 1 ∨ j = i * 3 + 2 := by omega
      rcases this with rfl | rfl | rfl
      · rw [List.getElem?_set_ne (by omega), List.getElem?_set_ne (by omega), List.getElem?_set_self (by omega)]
        simp
      · rw [List.getElem?_set_ne (by omega), List.getElem?_set_self (by simp; omega)]
        have : i * 3 + 1 - i * 3 = 1 := by omega
        rw [this]; rfl
      · rw [List.getElem?_set_self (by simp; omega)]
        have : i * 3 + 2 - i * 3 = 2 := by omega
        rw [this]; rfl
    · rw [if_neg h2, List.getElem?_eq_none (by simp; omega)]

/-- Behind i values. -/
structure Ra (w : World) (ks : List Int) (t0 : Bs) (i : Nat) (t : Bs) (wr : World) : Prop where
  ex : ∃ (xs : List Value) (pre : List ValD), wr.ownsRow 0 62 3 (.slice (some ⟨w.heap.size, 0, none⟩) ks.length ks.length) ks.length xs ∧ xs.take (i * 3) = flatV pre ∧ pre.length = i ∧ rdAll ks t0 = (rdAll (ks.drop i) t).map (pre ++ ·)
  below : Below w.heap.size w wr
  len : t.length ≤ t0.length
theorem Ra.on {w : World} {ks : List Int} {t0 : Bs} {i : Nat} {t : Bs} {wr w' : World} (h : Ra w ks t0 i t wr) (hb : Below wr.heap.size wr w') : Ra w ks t0 i t w' := by
  obtain ⟨xs, pre, h1, h2⟩ := h.ex
  exact ⟨⟨xs, pre, rowOn h1 fun g e => hb.block g (rowLt h1 e), h2⟩, h.below.trans (hb.mono h.below.size), h.len⟩
theorem Ra.cells {w : World} {ks : List Int} {t0 : Bs} {i : Nat} {t : Bs} {wr : World} (h : Ra w ks t0 i t wr) (hi : i < ks.length) : (∃ a, wr.cell? ⟨w.heap.size, i * 3, none⟩ = some a) ∧ (∃ a, wr.cell? ⟨w.heap.size, i * 3 + 1, none⟩ = some a) ∧ (∃ a, wr.cell? ⟨w.heap.size, i * 3 + 2, none⟩ = some a) ∧ ∀ o, wr.frozen? ⟨w.heap.size, o, none⟩ = false := by
  obtain ⟨xs, pre, h1, h2⟩ := h.ex
  have hl := h1.1
  refine ⟨⟨_, rowCells h1 (List.getElem?_eq_getElem (by omega))⟩, ⟨_, rowCells h1 (List.getElem?_eq_getElem (by omega))⟩, ⟨_, rowCells h1 (List.getElem?_eq_getElem (by omega))⟩, fun o => h1.frozenAt o⟩
theorem Ra.put {w : World} {ks : List Int} {t0 : Bs} {i : Nat} {t r : Bs} {wr : World} {v : ValD} (h : Ra w ks t0 i t wr) {k : Int} (hk : ks[i]? = some k) (hr : rdV k t = some (v, r)) :
    Ra w ks t0 (i + 1) r (((wr.setCell ⟨w.heap.size, i * 3, none⟩ (.int .u64 v.u)).setCell ⟨w.heap.size, i * 3 + 1, none⟩ (.int .i64 v.i)).setCell ⟨w.heap.size, i * 3 + 2, none⟩ (.string ⟨v.s.toArray⟩)) := by
  obtain ⟨xs, pre, h1, h2, h3, h4⟩ := h.ex
  have hi := (List.getElem?_eq_some_iff.mp hk).1
  have hl := h1.1
  obtain ⟨a1, _⟩ := h1.stored (i * 3) (.int .u64 v.u)
  obtain ⟨a2, _⟩ := a1.stored (i * 3 + 1) (.int .i64 v.i)
  obtain ⟨a3, _⟩ := a2.stored (i * 3 + 2) (.string ⟨v.s.toArray⟩)
  refine ⟨⟨_, pre ++ [v], a3, ?_, by simp [h3], ?_⟩, ((h.below.setCell (Nat.le_refl _) _).setCell (Nat.le_refl _) _).setCell (Nat.le_refl _) _, ?_⟩
  · rw [set3_take (by omega), h2, flatV_snoc]; rfl
  · have e : ks.drop i = k :: ks.drop (i + 1) := by
      rw [List.drop_eq_getElem_cons hi]
      congr 1
      exact (List.getElem?_eq_some_iff.mp hk).2
    rw [h4, e, rdAll, hr]
    simp [Option.map_map, Function.comp_def]
  · have := rdV_len hr
    have := h.len
    omega
theorem Ra.fails {w : World} {ks : List Int} {t0 : Bs} {i : Nat} {t : Bs} {wr : World} (h : Ra w ks t0 i t wr) {k : Int} (hk : ks[i]? = some k) (hr : rdV k t = none) : rdAll ks t0 = none := by
  obtain ⟨xs, pre, h1, h2, h3, h4⟩ := h.ex
  have hi := (List.getElem?_eq_some_iff.mp hk).1
  have e : ks.drop i = k :: ks.drop (i + 1) := by
    rw [List.drop_eq_getElem_cons hi]
    congr 1
    exact (List.getElem?_eq_some_iff.mp hk).2
  rw [h4, e, rdAll, hr]
  rfl
theorem Ra.done {w : World} {ks : List Int} {t0 : Bs} {t : Bs} {wr : World} (h : Ra w ks t0 ks.length t wr) : (t ≠ [] → rdAll ks t0 = none) ∧ (t = [] → ∃ vs, rdAll ks t0 = some vs ∧ RowV wr (.slice (some ⟨w.heap.size, 0, none⟩) ks.length ks.length) vs ∧ vs.length = ks.length) := by
  obtain ⟨xs, pre, h1, h2, h3, h4⟩ := h.ex
  rw [List.drop_of_length_le (Nat.le_refl _), rdAll] at h4
  refine ⟨fun ht => by rw [h4, if_neg ht]; rfl, fun ht => ⟨pre, by rw [h4, if_pos ht]; simp, ?_, h3⟩⟩
  have hl := h1.1
  rw [List.take_of_length_le (by omega)] at h2
  show World.ownsRow _ _ _ _ _ pre.length _
  rw [h3, ← h2]
  exact h1
/-- What Read answers. -/
def ReadsAll (w : World) (ks : List Int) (t : Bs) (e : Ending) (w' : World) : Prop := (rdAll ks t = none ∧ e = .returned (.tuple #[.slice none 0 0, .bool false])) ∨ ∃ vs, rdAll ks t = some vs ∧ e = .returned (.tuple #[.slice (some ⟨w.heap.size, 0, none⟩) ks.length ks.length, .bool true]) ∧ RowV w' (.slice (some ⟨w.heap.size, 0, none⟩) ks.length ks.length) vs ∧ vs.length = ks.length
theorem str_ne (t : Bs) : ((⟨t.toArray⟩ : ByteArray) = ⟨#[]⟩) ↔ t = [] := by
  constructor
  · intro h
    have := congrArg (fun b : ByteArray => b.data.toList) h
    simpa using this
  · rintro rfl; rfl

set_option maxRecDepth 100000 in
set_option maxHeartbeats 2000000 in
theorem readAll_any {w : World} {v : Value} {ks : List Int} {s : ByteArray} (hv : IntsAt w v ks) (hks : IsSch ks) (hs : s.size ≤ 140737488355328) : Calls Try.prog 56 #[v, .string s] w fun e w' => ReadsAll w ks s.data.toList e w' ∧ Below w.heap.size w w' := by
  obtain ⟨i0, hi0, hz0, hz1, hz2⟩ : ∃ i0, Try.prog.info? 62 = some i0 ∧ i0.zero = some (.agg #[.int .u64 0, .int .i64 0, .string ⟨#[]⟩]) ∧ i0.size = 3 ∧ i0.bytes = 32 := by
    have := infoV
    cases hi : Try.prog.info? 62 with
    | none => rw [hi] at this; cases this
    | some i0 =>
      rw [hi] at this
      simp at this
      exact ⟨i0, rfl, this.1, this.2.1, this.2.2⟩
  obtain ⟨ao, kb, p, cap, rfl, hcap, hcells⟩ := hv
  have HI : Hid (∀ w1, Below w.heap.size w w1 → ∀ (i : Nat) k, ks[i]? = some k → ao = some ⟨kb, p, none⟩ ∧ w1.cell? ⟨kb, p + i, none⟩ = some (.int .i64 k)) := fun w1 hb i k hk => ⟨(hcells i k hk).1, cell_later hb (hcells i k hk).2⟩
  have HV : Hid (∀ (i : Nat) k, ks[i]? = some k → 1 ≤ k ∧ k ≤ 9) := fun i k hk => hks.all (List.mem_of_getElem? hk)
  have hn1 := hks.1
  clear hcells hks
  obtain ⟨t0, ht0⟩ : ∃ t0, t0 = s.data.toList := ⟨_, rfl⟩
  have hst : s = ⟨t0.toArray⟩ := by rw [ht0]
  have hlen0 : t0.length ≤ 140737488355328 := by rw [ht0]; simpa using hs
  rw [← ht0]
  clear ht0 hs
  subst hst
  have HRd : Hid (∀ (k : Int) (t : Bs) w1, 1 ≤ k ∧ k ≤ 9 → t.length ≤ 140737488355328 → Calls Try.prog 93 #[.int .i64 k, .string ⟨t.toArray⟩] w1 fun e w' => ((rdV k t = none ∧ ∃ v, e = .returned (.tuple #[valV v, .string ⟨#[]⟩, .bool false])) ∨ ∃ v r, rdV k t = some (v, r) ∧ e = .returned (.tuple #[valV v, .string ⟨r.toArray⟩, .bool true])) ∧ Below w1.heap.size w1 w') := fun k t w1 hk ht => by
    refine (readV_any k ⟨t.toArray⟩ w1 hk (by show t.toArray.size ≤ _; simpa using ht)).mono ?_
    rintro e w' ⟨h1, h2⟩
    refine ⟨?_, h2⟩
    unfold ReadsV at h1
    have e1 : (⟨t.toArray⟩ : ByteArray).data.toList = t := by simp
    rw [e1] at h1
    cases hr : rdV k t with
    | none => rw [hr] at h1; exact .inl ⟨rfl, h1⟩
    | some p => rw [hr] at h1; exact .inr ⟨p.1, p.2, rfl, h1⟩
  have HStart : Hid (∀ w1 xs, w1.ownsRow 0 62 3 (.slice (some ⟨w.heap.size, 0, none⟩) ks.length ks.length) ks.length xs → w.grownBy w1 none → Ra w ks t0 0 t0 w1) := fun w1 xs h1 hg =>
    ⟨⟨xs, [], h1, by simp [flatV], rfl, by simp⟩, ⟨hg.os, hg.tape, hg.output, hg.size, fun k hk => hg.block k hk (by simp)⟩, Nat.le_refl _⟩
  go_enter Try.func56, Try.ntmps56
  go_wp2_with (
    (refine wpList_make_full _ rfl _ _ _ rfl 0 62 i0 (.agg #[.int .u64 0, .int .i64 0, .string ⟨#[]⟩]) 3 Try.underlying57 hi0 hz0 hz1 .i64 .i64 _ _ ks.length rfl rfl rfl rfl (by rw [hz2]; omega) (by unfold maxLen; omega) (Nat.zero_le _) ?_; intro w1 hown hgrow; have HS : Hid (Ra w ks t0 0 t0 w1) := HStart.out _ _ hown hgrow; clear hown hgrow))
  have eV : ∀ (w1 : World) (a b c : Value), w1.alloc (.cells #[a, b, c] 62) = w1.alloc (.cells #[a, b, c] 62) := fun _ _ _ _ => rfl
  clear eV
  go_loopg [1, 7, 8, 9, 10, 11, 17] ks.length (fun gk s1 s7 s8 s9 s10 s11 s17 wr => ∃ (i : Nat) (t : Bs), s1 = .string ⟨t.toArray⟩ ∧ s17 = .int .i64 i ∧ i ≤ ks.length ∧ gk = ks.length - i ∧ Hid (Ra w ks t0 i t wr))
  case atStart => exact ⟨0, t0, rfl, rfl, by omega, rfl, HS.out⟩
  case round =>
    obtain ⟨i, t, rfl, rfl, hi, rfl, HR⟩ := hrel
    clear HS
    by_cases hlt : i < ks.length
    · obtain ⟨k, hk⟩ : ∃ k, ks[i]? = some k := ⟨_, List.getElem?_eq_getElem hlt⟩
      obtain ⟨rfl, c0⟩ := HI.out _ HR.out.below i k hk
      have HK : Hid (ks[i]? = some k) := hk
      have hltI : (i : Int) < (ks.length : Int) := by omega
      have htl := HR.out.len
      have HC := HRd.out k t wr (HV.out i k hk) (by omega)
      have HCal : Hid (Calls Try.prog 93 #[.int .i64 k, .string ⟨t.toArray⟩] wr fun e w' => ((rdV k t = none ∧ ∃ v, e = .returned (.tuple #[valV v, .string ⟨#[]⟩, .bool false])) ∨ ∃ v r, rdV k t = some (v, r) ∧ e = .returned (.tuple #[valV v, .string ⟨r.toArray⟩, .bool true])) ∧ Below wr.heap.size wr w') := HC
      clear hk HC
      cases hrd : rdV k t with
      | none =>
        have HN : Hid (rdV k t = none) := hrd
        have HCn : Hid (Calls Try.prog 93 #[.int .i64 k, .string ⟨t.toArray⟩] wr fun e w' => (∃ v, e = .returned (.tuple #[valV v, .string ⟨#[]⟩, .bool false])) ∧ Below wr.heap.size wr w') := HCal.out.mono fun e w' he => ⟨(by
          rcases he.1 with h | ⟨v, r, h, _⟩
          · exact h.2
          · rw [hrd] at h; cases h), he.2⟩
        clear hrd HCal
        go_wp2_with ((go_at_call 93; refine HCn.out.mono ?_; rintro e w2 ⟨⟨v, rfl⟩, hb2⟩; unfold valV))
        go_ret2
        refine ⟨.inl ⟨HR.out.fails HK.out HN.out, rfl⟩, ?_⟩
        have hb3 := HR.out.below.trans (hb2.mono HR.out.below.size)
        exact hb3.alloc hb3.size _
      | some q =>
        obtain ⟨v, r⟩ := q
        have HN : Hid (rdV k t = some (v, r)) := hrd
        have HCn : Hid (Calls Try.prog 93 #[.int .i64 k, .string ⟨t.toArray⟩] wr fun e w' => e = .returned (.tuple #[valV v, .string ⟨r.toArray⟩, .bool true]) ∧ Below wr.heap.size wr w') := HCal.out.mono fun e w' he => ⟨(by
          rcases he.1 with h | ⟨v', r', h, h2⟩
          · rw [hrd] at h; cases h.1
          · rw [hrd] at h; cases h; exact h2), he.2⟩
        clear hrd HCal
        have HRon : Hid (∀ w2 ob, Below wr.heap.size wr w2 → Ra w ks t0 i t (w2.alloc ob)) := fun w2 ob hb => HR.out.on (hb.alloc hb.size _)
        have HCell : Hid (∀ wx, Ra w ks t0 i t wx → (∃ a, wx.cell? ⟨w.heap.size, i * 3, none⟩ = some a) ∧ (∃ a, wx.cell? ⟨w.heap.size, i * 3 + 1, none⟩ = some a) ∧ (∃ a, wx.cell? ⟨w.heap.size, i * 3 + 2, none⟩ = some a) ∧ ∀ o, wx.frozen? ⟨w.heap.size, o, none⟩ = false) := fun wx h => h.cells hlt
        have HPut : Hid (∀ wx, Ra w ks t0 i t wx → Ra w ks t0 (i + 1) r (((wx.setCell ⟨w.heap.size, i * 3, none⟩ (.int .u64 v.u)).setCell ⟨w.heap.size, i * 3 + 1, none⟩ (.int .i64 v.i)).setCell ⟨w.heap.size, i * 3 + 2, none⟩ (.string ⟨v.s.toArray⟩))) := fun wx h => h.put HK.out HN.out
        have hwl : w.heap.size < wr.heap.size := by
          obtain ⟨xs, pre, h1, _⟩ := HR.out.ex
          exact rowLt h1 rfl
        go_wp2_with ((go_at_call 93; refine HCn.out.mono ?_; rintro e w2 ⟨rfl, hb2⟩; unfold valV; have hra := HRon.out w2 (.cells #[.int .u64 v.u, .int .i64 v.i, .string ⟨v.s.toArray⟩] 62) hb2; obtain ⟨⟨a0, q0⟩, ⟨a1, q1⟩, ⟨a2, q2⟩, qf⟩ := HCell.out _ hra; have HRA : Hid (Ra w ks t0 i t (w2.alloc (.cells #[.int .u64 v.u, .int .i64 v.i, .string ⟨v.s.toArray⟩] 62))) := hra; have hw2 := hb2.size; clear hra hb2))
        go_roundg (ks.length - (i + 1))
        case measure => omega
        case rel => exact ⟨i + 1, r, rfl, by go_num, by omega, rfl, HPut.out _ HRA.out⟩
    · obtain rfl : i = ks.length := by omega
      have hltI : ¬ (ks.length : Int) < (ks.length : Int) := by omega
      obtain ⟨d1, d2⟩ := HR.out.done
      by_cases ht : t = []
      · subst ht
        have HD : Hid (∃ vs, rdAll ks t0 = some vs ∧ RowV wr (.slice (some ⟨w.heap.size, 0, none⟩) ks.length ks.length) vs ∧ vs.length = ks.length) := d2 rfl
        clear d1 d2
        go_wp2_with fail
        go_ret2
        obtain ⟨vs, h1, h2, h3⟩ := HD.out
        exact ⟨.inr ⟨vs, h1, rfl, h2, h3⟩, HR.out.below⟩
      · have HD : Hid (rdAll ks t0 = none) := d1 ht
        have hne : List.isEmpty t = false := by
          cases t with
          | nil => exact absurd rfl ht
          | cons a l => rfl
        clear d1 d2
        go_wp2_with fail
        go_ret2
        exact ⟨.inl ⟨HD.out, rfl⟩, HR.out.below⟩

/-- What Decode answers. -/
def Decoded (w : World) (ks : List Int) (t : Bs) (e : Ending) (w' : World) : Prop := (¬ IsSch ks ∧ e = .returned (.tuple #[.slice none 0 0, .int .i64 3])) ∨ (IsSch ks ∧ rdAll ks t = none ∧ e = .returned (.tuple #[.slice none 0 0, .int .i64 5])) ∨ ∃ vs, IsSch ks ∧ rdAll ks t = some vs ∧ e = .returned (.tuple #[.slice (some ⟨w.heap.size, 0, none⟩) vs.length vs.length, .int .i64 0]) ∧ RowV w' (.slice (some ⟨w.heap.size, 0, none⟩) vs.length vs.length) vs
set_option maxRecDepth 100000 in
set_option maxHeartbeats 1000000 in
theorem decode_any {w : World} {v : Value} {ks : List Int} {s : ByteArray} (hv : IntsAt w v ks) (hl : ks.length ≤ 9223372036854775807) (hs : s.size ≤ 140737488355328) : Calls Try.prog 25 #[v, .string s] w fun e w' => Decoded w ks s.data.toList e w' ∧ Below w.heap.size w w' := by
  have HI : Hid (Calls Try.prog 55 #[v] w fun e w' => e = .returned (.bool (decide (IsSch ks))) ∧ w' = w) := isSchema_any hv hl
  by_cases hk : IsSch ks
  · rw [decide_eq_true hk] at HI
    have HR : Hid (Calls Try.prog 56 #[v, .string s] w fun e w' => ReadsAll w ks s.data.toList e w' ∧ Below w.heap.size w w') := readAll_any hv hk hs
    unfold ReadsAll at HR
    have HK : Hid (IsSch ks) := hk
    clear hv hk
    cases hr : rdAll ks s.data.toList with
    | none =>
      have HN : Hid (rdAll ks s.data.toList = none) := hr
      have HR2 : Hid (Calls Try.prog 56 #[v, .string s] w fun e w' => e = .returned (.tuple #[.slice none 0 0, .bool false]) ∧ Below w.heap.size w w') := HR.out.mono fun e w' he => ⟨(by
        rcases he.1 with h | ⟨vs, h, _⟩
        · exact h.2
        · rw [hr] at h; cases h), he.2⟩
      clear HR hr
      go_enter Try.func25, Try.ntmps25
      go_wp2_with (first
        | (go_at_call 55; refine HI.out.mono ?_; rintro e w1 ⟨rfl, rfl⟩)
        | (go_at_call 56; refine HR2.out.mono ?_; rintro e w2 ⟨rfl, hb⟩))
      go_ret2
      exact ⟨.inr (.inl ⟨HK.out, HN.out, rfl⟩), hb⟩
    | some vs =>
      have HN : Hid (rdAll ks s.data.toList = some vs) := hr
      have HR2 : Hid (Calls Try.prog 56 #[v, .string s] w fun e w' => e = .returned (.tuple #[.slice (some ⟨w.heap.size, 0, none⟩) vs.length vs.length, .bool true]) ∧ RowV w' (.slice (some ⟨w.heap.size, 0, none⟩) vs.length vs.length) vs ∧ Below w.heap.size w w') := HR.out.mono fun e w' he => by
        rcases he.1 with h | ⟨vs', h, h2, h3, h4⟩
        · rw [hr] at h; cases h.1
        · rw [hr] at h; cases h
          rw [h4]
          exact ⟨h2, h3, he.2⟩
      clear HR hr
      go_enter Try.func25, Try.ntmps25
      go_wp2_with (first
        | (go_at_call 55; refine HI.out.mono ?_; rintro e w1 ⟨rfl, rfl⟩)
        | (go_at_call 56; refine HR2.out.mono ?_; rintro e w2 ⟨rfl, hrow, hb⟩; have HRow : Hid (RowV w2 _ vs) := hrow; clear hrow))
      go_ret2
      exact ⟨.inr (.inr ⟨vs, HK.out, HN.out, rfl, HRow.out⟩), hb⟩
  · rw [decide_eq_false hk] at HI
    have HK : Hid (¬ IsSch ks) := hk
    clear hv hk
    go_enter Try.func25, Try.ntmps25
    go_wp2_with ((go_at_call 55; refine HI.out.mono ?_; rintro e w1 ⟨rfl, rfl⟩))
    go_ret2
    exact ⟨.inl ⟨HK.out, rfl⟩, Below.refl _ _⟩

end Go.Proofs.Ytcgjppacnhmjlaa
