/- Scan and Prefix of the document's index. -/
import Derived.Test.YtcgjppacnhmjlaaGreatRefU
import Derived.Test.YtcgjppacnhmjlaaGreatPfxA
set_option linter.unusedVariables false
set_option linter.unusedSimpArgs false
namespace Go.Proofs.YtcgjppacnhmjlaaGreat
open Go.RowKit
attribute [local go_sem ↓] Go.wp_at_zero Go.wp_at_succ

theorem ownsRow_onB {w w' : World} {base : Nat} {e : TypeId} {size n : Nat} {v : Value} {xs : List Value} (h : w.ownsRow base e size v n xs) (hb : Below w.heap.size w w') : w'.ownsRow base e size v n xs := by
  have hlt := h.lt
  obtain ⟨h0, h1 | ⟨g', cap', cur, h1, h2, h3, h4⟩⟩ := h
  · exact ⟨h0, .inl h1⟩
  · exact ⟨h0, .inr ⟨g', cap', cur, h1, h2, (hb.block g' (hlt g' (by rw [h1]; rfl)).2).trans h3, h4⟩⟩
theorem filter_take_succ (f : KV → Bool) (l : List KV) (j : Nat) (e : KV) (h : l[j]? = some e) : (l.take (j + 1)).filter f = (l.take j).filter f ++ (if f e = true then [e] else []) := by
  rw [take_snoc' l j e h, List.filter_append]
  cases hf : f e <;> simp [hf]
/-- The row of pairs that is being made. -/
def Outs (w : World) (v : Value) (ps : List KV) (wr : World) : Prop := wr.ownsRow w.heap.size 46 2 v ps.length (flat ps) ∧ Below w.heap.size w wr
theorem RefAt.on' {w w' : World} {r : Nat} {av : Value} {l : List KV} (h : RefAt w r av l) (hb : Below w.heap.size w w') : RefAt w' r av l := h.on hb

set_option maxRecDepth 100000 in
set_option maxHeartbeats 1000000 in
theorem rscan_any {w : World} {r : Nat} {av : Value} {l : List KV} (h : RefAt w r av l) (fr to : ByteArray) (hf : fr.size ≤ 9223372036854775807) (ht : to.size ≤ 9223372036854775807) :
    Calls Tryz.prog 29 #[.pointer (some ⟨r, 0, none⟩), .string fr, .string to] w fun e w' => ∃ v, e = .returned v ∧ Outs w v (rng fr.data.toList to.data.toList l) w' := by
  obtain ⟨i0, hi0, hz0, hz1, hz2⟩ := info_parts infoPr
  have hfew := h.few
  have HH : Hid (RefAt w r av l) := h
  obtain ⟨ao, cap, hav⟩ : ∃ ao cap, av = .slice ao l.length cap := by
    rcases h.cases with ⟨rfl, rfl⟩ | ⟨g, cap, rfl, hp, hc⟩
    · exact ⟨_, _, rfl⟩
    · exact ⟨_, _, rfl⟩
  subst hav
  clear h
  go_enter Tryz.func29, Tryz.ntmps29
  go_wp2
  go_loopg [7, 8] l.length (fun gk v i wr => ∃ j : Nat, j ≤ l.length ∧ gk + j = l.length ∧ i = .int .i64 j ∧ Hid (Outs w v (rng fr.data.toList to.data.toList (l.take j)) wr))
  case atStart => exact ⟨0, Nat.zero_le _, by omega, rfl, World.ownsRow_nil _ _ _ _, Below.refl _ _⟩
  case round =>
    obtain ⟨j, hj, hg, rfl, HO⟩ := hrel
    have hrc := (HH.out.on HO.out.2).cell
    by_cases h1 : j < l.length
    · obtain ⟨e, he⟩ : ∃ e, l[j]? = some e := ⟨l[j], List.getElem?_eq_getElem h1⟩
      obtain ⟨g, cap', hav, hp, hcap⟩ : ∃ g cap', Value.slice ao l.length cap = .slice (some ⟨g, 0, none⟩) l.length cap' ∧ PairsAt wr g l ∧ l.length ≤ cap' := by
        rcases (HH.out.on HO.out.2).cases with ⟨rfl, _⟩ | h
        · simp at h1
        · exact h
      cases hav
      obtain ⟨c1, c2⟩ := hp j e he
      have HL : Hid (∀ (b : ByteArray) w1, b.size ≤ 9223372036854775807 → Calls Tryz.prog 46 #[.string (keyOf e), .string b] w1 fun e' w' => e' = .returned (.bool (Op.bytesLess e.1 b.data.toList)) ∧ ∃ n, w' = w1.drewN n) := fun b w1 hb => by
        have hk : (keyOf e).size ≤ 9223372036854775807 := by
          have := HH.out.short e (List.mem_of_getElem? he)
          rw [keyOf_size]; omega
        have := less_any (keyOf e) b w1 hk hb
        rw [keyOf_list] at this
        exact this
      have HN : Hid (rng fr.data.toList to.data.toList (l.take (j + 1)) = rng fr.data.toList to.data.toList (l.take j) ++ (if inR fr.data.toList to.data.toList e.1 = true then [e] else [])) := filter_take_succ _ l j e he
      have hn3 : (rng fr.data.toList to.data.toList (l.take j)).length ≤ 3000 := by
        have h4 : (rng fr.data.toList to.data.toList (l.take j)).length ≤ (l.take j).length := List.length_filter_le _ _
        simp at h4
        omega
      have hjI : (j : Int) < (l.length : Int) := by omega
      clear he hp
      obtain ⟨m, hm⟩ : ∃ m, (rng fr.data.toList to.data.toList (l.take j)).length = m := ⟨_, rfl⟩
      have HM : Hid ((rng fr.data.toList to.data.toList (l.take j)).length = m) := hm
      have hO := HO.out
      unfold Outs at hO
      rw [hm] at hn3 hO
      have HO1 : Hid (wr.ownsRow w.heap.size 46 2 _ m (flat (rng fr.data.toList to.data.toList (l.take j))) ∧ Below w.heap.size w wr) := hO
      clear hm hO
      unfold inR at HN
      cases hb1 : Op.bytesLess e.1 fr.data.toList with
      | true =>
        rw [hb1] at HN
        simp only [Bool.not_true, Bool.false_and, Bool.false_eq_true, if_false, List.append_nil] at HN
        have HL1 := HL.out fr
        rw [hb1] at HL1
        have HL2 : Hid (∀ w1, Calls Tryz.prog 46 #[.string (keyOf e), .string fr] w1 fun e' w' => e' = .returned (.bool true) ∧ ∃ n, w' = w1.drewN n) := fun w1 => HL1 w1 hf
        clear HL1 HL
        go_wp2_with (go_at_call 46; refine (HL2.out _).mono ?_; rintro e' w' ⟨rfl, n, rfl⟩)
        go_roundg (gk - 1)
        case measure => omega
        case rel => exact ⟨j + 1, by omega, by omega, by go_num, by rw [HN.out]; exact HO.out.1, below_drewN'' HO.out.2 _⟩
      | false =>
        rw [hb1] at HN
        simp only [Bool.not_false, Bool.true_and] at HN
        have HL1 := HL.out fr
        rw [hb1] at HL1
        have HLf : Hid (∀ w1, Calls Tryz.prog 46 #[.string (keyOf e), .string fr] w1 fun e' w' => e' = .returned (.bool false) ∧ ∃ n, w' = w1.drewN n) := fun w1 => HL1 w1 hf
        clear HL1
        cases h2 : to.toList.isEmpty with
        | true =>
          rw [← empty_back, h2] at HN
          simp only [Bool.true_or, if_true] at HN
          go_wp2_with (first
            | (go_at_call 46; refine (HLf.out _).mono ?_; rintro e' w' ⟨rfl, n, rfl⟩)
            | (at_builtin; refine wpList_append_lies _ rfl _ _ _ rfl w.heap.size 46 i0 (.agg #[.string ⟨#[]⟩, .int .i64 0]) 2 24 Tryz.underlying34 hi0 hz0 hz1 hz2 rfl (by omega) _ m _ rfl (World.ownsRow.alloc (w := wr.drewN n) HO1.out.1 _) ⟨wr.heap.size, 0, none⟩ 1 1 [.string (keyOf e), .int .i64 e.2] rfl rfl (World.news_of_block (cs := #[.string (keyOf e), .int .i64 e.2]) (t := 46) (fr := (0, 0)) (heap_alloc_new (wr.drewN n) _)) (by simp [Value.oneCell']) (by omega) (by unfold maxLen; omega) (by omega) (by have := HO1.out.2.size; simp; omega) _ rfl ?_; intro g2 cap2 w1 hown1 hgrow1 hat1 hlt1))
          go_roundg (gk - 1)
          case measure => omega
          case rel => exact ⟨j + 1, by omega, by omega, by go_num, by rw [HN.out, flat_snoc, List.length_append, HM.out]; exact hown1, Below.grown ((below_drewN'' HO1.out.2 n).alloc (by have := HO1.out.2.size; simpa using this) _) hgrow1 (by have := HO1.out.2.size; simp; omega) (fun _ hk => ownBlock_ge HO1.out.1 hk)⟩
        | false =>
          rw [← empty_back, h2] at HN
          simp only [Bool.false_or] at HN
          have HC : Hid (∀ w1, Below wr.heap.size wr w1 → w1.cell? ⟨g, j * 2, none⟩ = some (.string (keyOf e)) ∧ w1.cell? ⟨g, j * 2 + 1, none⟩ = some (.int .i64 e.2) ∧ w1.cell? ⟨r, 0, none⟩ = some (.slice (some ⟨g, 0, none⟩) l.length cap)) := fun w1 hb => ⟨cell_later hb c1, cell_later hb c2, cell_later hb hrc⟩
          have HQ : Hid (∀ w1, Below wr.heap.size wr w1 → w1.ownsRow w.heap.size 46 2 _ m (flat (rng fr.data.toList to.data.toList (l.take j))) ∧ Below w.heap.size w w1) := fun w1 hb => ⟨ownsRow_onB HO1.out.1 hb, HO1.out.2.trans (hb.mono HO1.out.2.size)⟩
          have HLb : Hid (∀ (b : ByteArray) w1, Below wr.heap.size wr w1 → b.size ≤ 9223372036854775807 → Calls Tryz.prog 46 #[.string (keyOf e), .string b] w1 fun e' w' => e' = .returned (.bool (Op.bytesLess e.1 b.data.toList)) ∧ Below wr.heap.size wr w') := fun b w1 hb hbs => (HL.out b w1 hbs).mono fun e' w' he => by obtain ⟨h4, n, rfl⟩ := he; exact ⟨h4, below_drewN'' hb n⟩
          clear HL HLf
          cases h3 : Op.bytesLess e.1 to.data.toList with
          | true =>
            rw [h3] at HN
            simp only [if_true] at HN
            go_wp2_with (first
              | (go_at_call 46; refine (HLb.out _ _ (by first | exact Below.refl _ _ | exact hb2) (by assumption)).mono ?_; rintro e' w2 ⟨rfl, hb2⟩; (first | rw [hb1] | rw [h3]); have c1 := (HC.out _ hb2).1; have c2 := (HC.out _ hb2).2.1; have hrc := (HC.out _ hb2).2.2; have hO3 : Hid _ := HQ.out _ hb2)
              | (at_builtin; refine wpList_append_lies _ rfl _ _ _ rfl w.heap.size 46 i0 (.agg #[.string ⟨#[]⟩, .int .i64 0]) 2 24 Tryz.underlying34 hi0 hz0 hz1 hz2 rfl (by omega) _ m _ rfl (World.ownsRow.alloc (w := w2) hO3.out.1 _) ⟨w2.heap.size, 0, none⟩ 1 1 [.string (keyOf e), .int .i64 e.2] rfl rfl (World.news_of_block (cs := #[.string (keyOf e), .int .i64 e.2]) (t := 46) (fr := (0, 0)) (heap_alloc_new w2 _)) (by simp [Value.oneCell']) (by omega) (by unfold maxLen; omega) (by omega) (by have := hO3.out.2.size; simp; omega) _ rfl ?_; intro g2 cap2 w1 hown1 hgrow1 hat1 hlt1))
            go_roundg (gk - 1)
            case measure => omega
            case rel => exact ⟨j + 1, by omega, by omega, by go_num, by rw [HN.out, flat_snoc, List.length_append, HM.out]; exact hown1, Below.grown (hO3.out.2.alloc hO3.out.2.size _) hgrow1 (by have := hO3.out.2.size; simp; omega) (fun _ hk => ownBlock_ge hO3.out.1 hk)⟩
          | false =>
            rw [h3] at HN
            simp only [Bool.false_eq_true, if_false, List.append_nil] at HN
            go_wp2_with (go_at_call 46; refine (HLb.out _ _ (by first | exact Below.refl _ _ | exact hb2) (by assumption)).mono ?_; rintro e' w2 ⟨rfl, hb2⟩; (first | rw [hb1] | rw [h3]); have c1 := (HC.out _ hb2).1; have c2 := (HC.out _ hb2).2.1; have hrc := (HC.out _ hb2).2.2; have hO3 : Hid _ := HQ.out _ hb2)
            go_roundg (gk - 1)
            case measure => omega
            case rel => exact ⟨j + 1, by omega, by omega, by go_num, by rw [HN.out, HM.out]; exact hO3.out.1, hO3.out.2⟩
    · have ej : j = l.length := by omega
      have hE := HO.out
      rw [ej, List.take_of_length_le (Nat.le_refl _)] at hE
      have HE : Hid _ := hE
      clear hE
      have hjI : ¬ (j : Int) < (l.length : Int) := by omega
      go_wp2
      go_ret
      exact ⟨_, rfl, HE.out⟩


set_option maxHeartbeats 400000 in
theorem begins_any (s p : ByteArray) (w : World) (hs : s.size ≤ 9223372036854775807) (hp : p.size ≤ 9223372036854775807) :
    Calls Tryz.prog 47 #[.string s, .string p] w fun e w' => e = .returned (.bool (hasP p.data.toList s.data.toList)) ∧ w' = w := by
  by_cases h : p.size ≤ s.size
  · have hI : (p.size : Int) ≤ (s.size : Int) := by omega
    go_enter Tryz.func47, Tryz.ntmps47
    go_wp2
    go_ret
    exact ⟨ret_bool (hasPrefix_long s p h), rfl⟩
  · have hI : ¬ (p.size : Int) ≤ (s.size : Int) := by omega
    go_enter Tryz.func47, Tryz.ntmps47
    go_wp2
    go_ret
    exact ⟨ret_bool (hasPrefix_short s p h), rfl⟩

set_option maxRecDepth 100000 in
set_option maxHeartbeats 1000000 in
theorem rprefix_any {w : World} {r : Nat} {av : Value} {l : List KV} (h : RefAt w r av l) (p : ByteArray) (hp : p.size ≤ 9223372036854775807) :
    Calls Tryz.prog 30 #[.pointer (some ⟨r, 0, none⟩), .string p] w fun e w' => ∃ v, e = .returned v ∧ Outs w v (pfx p.data.toList l) w' := by
  obtain ⟨i0, hi0, hz0, hz1, hz2⟩ := info_parts infoPr
  have hfew := h.few
  have HH : Hid (RefAt w r av l) := h
  obtain ⟨ao, cap, hav⟩ : ∃ ao cap, av = .slice ao l.length cap := by
    rcases h.cases with ⟨rfl, rfl⟩ | ⟨g, cap, rfl, hp, hc⟩
    · exact ⟨_, _, rfl⟩
    · exact ⟨_, _, rfl⟩
  subst hav
  clear h
  go_enter Tryz.func30, Tryz.ntmps30
  go_wp2
  go_loopg [5, 6] l.length (fun gk v i wr => ∃ j : Nat, j ≤ l.length ∧ gk + j = l.length ∧ i = .int .i64 j ∧ Hid (Outs w v (pfx p.data.toList (l.take j)) wr))
  case atStart => exact ⟨0, Nat.zero_le _, by omega, rfl, World.ownsRow_nil _ _ _ _, Below.refl _ _⟩
  case round =>
    obtain ⟨j, hj, hg, rfl, HO⟩ := hrel
    have hrc := (HH.out.on HO.out.2).cell
    by_cases h1 : j < l.length
    · obtain ⟨e, he⟩ : ∃ e, l[j]? = some e := ⟨l[j], List.getElem?_eq_getElem h1⟩
      obtain ⟨g, cap', hav, hpa, hcap⟩ : ∃ g cap', Value.slice ao l.length cap = .slice (some ⟨g, 0, none⟩) l.length cap' ∧ PairsAt wr g l ∧ l.length ≤ cap' := by
        rcases (HH.out.on HO.out.2).cases with ⟨rfl, _⟩ | h
        · simp at h1
        · exact h
      cases hav
      obtain ⟨c1, c2⟩ := hpa j e he
      have hkb : (keyOf e).size ≤ 9223372036854775807 := by
        have := HH.out.short e (List.mem_of_getElem? he)
        rw [keyOf_size]; omega
      have HN : Hid (pfx p.data.toList (l.take (j + 1)) = pfx p.data.toList (l.take j) ++ (if hasP p.data.toList e.1 = true then [e] else [])) := filter_take_succ _ l j e he
      have hn3 : (pfx p.data.toList (l.take j)).length ≤ 3000 := by
        have h4 : (pfx p.data.toList (l.take j)).length ≤ (l.take j).length := List.length_filter_le _ _
        simp at h4
        omega
      have hjI : (j : Int) < (l.length : Int) := by omega
      clear he hpa
      obtain ⟨m, hm⟩ : ∃ m, (pfx p.data.toList (l.take j)).length = m := ⟨_, rfl⟩
      have HM : Hid ((pfx p.data.toList (l.take j)).length = m) := hm
      have hO := HO.out
      unfold Outs at hO
      rw [hm] at hn3 hO
      have HO1 : Hid (wr.ownsRow w.heap.size 46 2 _ m (flat (pfx p.data.toList (l.take j))) ∧ Below w.heap.size w wr) := hO
      clear hm hO
      have HC : Hid (∀ w1, Below wr.heap.size wr w1 → w1.cell? ⟨g, j * 2, none⟩ = some (.string (keyOf e)) ∧ w1.cell? ⟨g, j * 2 + 1, none⟩ = some (.int .i64 e.2) ∧ w1.cell? ⟨r, 0, none⟩ = some (.slice (some ⟨g, 0, none⟩) l.length cap)) := fun w1 hb => ⟨cell_later hb c1, cell_later hb c2, cell_later hb hrc⟩
      have HQ : Hid (∀ w1, Below wr.heap.size wr w1 → w1.ownsRow w.heap.size 46 2 _ m (flat (pfx p.data.toList (l.take j))) ∧ Below w.heap.size w w1) := fun w1 hb => ⟨ownsRow_onB HO1.out.1 hb, HO1.out.2.trans (hb.mono HO1.out.2.size)⟩
      cases h3 : hasP p.data.toList e.1 with
      | true =>
        rw [h3] at HN
        simp only [if_true] at HN
        have HLb : Hid (∀ w1, Below wr.heap.size wr w1 → Calls Tryz.prog 47 #[.string (keyOf e), .string p] w1 fun e' w' => e' = .returned (.bool true) ∧ Below wr.heap.size wr w') := fun w1 hb => (begins_any (keyOf e) p w1 hkb hp).mono fun e' w' he => by
          obtain ⟨h4, rfl⟩ := he
          rw [keyOf_list, h3] at h4
          exact ⟨h4, hb⟩
        go_wp2_with (first
          | (go_at_call 47; refine (HLb.out _ (Below.refl _ _)).mono ?_; rintro e' w2 ⟨rfl, hb2⟩; have c1 := (HC.out _ hb2).1; have c2 := (HC.out _ hb2).2.1; have hrc := (HC.out _ hb2).2.2; have hO3 : Hid _ := HQ.out _ hb2)
          | (at_builtin; refine wpList_append_lies _ rfl _ _ _ rfl w.heap.size 46 i0 (.agg #[.string ⟨#[]⟩, .int .i64 0]) 2 24 Tryz.underlying34 hi0 hz0 hz1 hz2 rfl (by omega) _ m _ rfl (World.ownsRow.alloc (w := w2) hO3.out.1 _) ⟨w2.heap.size, 0, none⟩ 1 1 [.string (keyOf e), .int .i64 e.2] rfl rfl (World.news_of_block (cs := #[.string (keyOf e), .int .i64 e.2]) (t := 46) (fr := (0, 0)) (heap_alloc_new w2 _)) (by simp [Value.oneCell']) (by omega) (by unfold maxLen; omega) (by omega) (by have := hO3.out.2.size; simp; omega) _ rfl ?_; intro g2 cap2 w1 hown1 hgrow1 hat1 hlt1))
        go_roundg (gk - 1)
        case measure => omega
        case rel => exact ⟨j + 1, by omega, by omega, by go_num, by rw [HN.out, flat_snoc, List.length_append, HM.out]; exact hown1, Below.grown (hO3.out.2.alloc hO3.out.2.size _) hgrow1 (by have := hO3.out.2.size; simp; omega) (fun _ hk => ownBlock_ge hO3.out.1 hk)⟩
      | false =>
        rw [h3] at HN
        simp only [Bool.false_eq_true, if_false, List.append_nil] at HN
        have HLb : Hid (∀ w1, Below wr.heap.size wr w1 → Calls Tryz.prog 47 #[.string (keyOf e), .string p] w1 fun e' w' => e' = .returned (.bool false) ∧ Below wr.heap.size wr w') := fun w1 hb => (begins_any (keyOf e) p w1 hkb hp).mono fun e' w' he => by
          obtain ⟨h4, rfl⟩ := he
          rw [keyOf_list, h3] at h4
          exact ⟨h4, hb⟩
        go_wp2_with (go_at_call 47; refine (HLb.out _ (Below.refl _ _)).mono ?_; rintro e' w2 ⟨rfl, hb2⟩; have c1 := (HC.out _ hb2).1; have c2 := (HC.out _ hb2).2.1; have hrc := (HC.out _ hb2).2.2; have hO3 : Hid _ := HQ.out _ hb2)
        go_roundg (gk - 1)
        case measure => omega
        case rel => exact ⟨j + 1, by omega, by omega, by go_num, by rw [HN.out, HM.out]; exact hO3.out.1, hO3.out.2⟩
    · have ej : j = l.length := by omega
      have hE := HO.out
      rw [ej, List.take_of_length_le (Nat.le_refl _)] at hE
      have HE : Hid _ := hE
      clear hE
      have hjI : ¬ (j : Int) < (l.length : Int) := by omega
      go_wp2
      go_ret
      exact ⟨_, rfl, HE.out⟩

end Go.Proofs.YtcgjppacnhmjlaaGreat
