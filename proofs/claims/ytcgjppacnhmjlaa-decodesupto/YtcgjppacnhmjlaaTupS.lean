/- The document's own codes: code. -/
import Derived.Test.YtcgjppacnhmjlaaTupR
import Derived.Test.YtcgjppacnhmjlaaTupM
set_option linter.unusedVariables false
set_option linter.unusedSimpArgs false
namespace Go.Proofs.Ytcgjppacnhmjlaa
open Go.RowKit Go.Shelf
attribute [local go_sem ↓] Go.wp_at_zero Go.wp_at_succ

/-- What code answers. -/
def CodeR (k : Int) (v : ValD) (e : Ending) : Prop := ∃ (c : Bs) (b : Bool), e = .returned (.tuple #[.string ⟨c.toArray⟩, .bool b]) ∧ (b = true ↔ FitV k v) ∧ (FitV k v → c = encV k v)
theorem esc_app (a b : Bs) : esc (a ++ b) = esc a ++ esc b := by
  induction a with
  | nil => rfl
  | cons x a ih =>
    simp only [List.cons_append, esc]
    split <;> simp [ih]
theorem ext_one (s : ByteArray) (i : Nat) (h : i < s.size) : s.extract i (i + 1) = ⟨#[s[i]]⟩ := by
  apply kof_ext
  rw [Lib.extract_data]
  simp
  rw [List.drop_eq_getElem_cons (by simpa using h)]
  simp
  rfl

set_option maxRecDepth 100000 in
set_option maxHeartbeats 4000000 in
theorem refCode_text (v : ValD) (w : World) (hv : ValOk v) (hlen : v.s.length ≤ 4611686018427387000) : Calls Try.prog 60 #[.int .i64 9, valV v] w fun e w' => CodeR 9 v e ∧ Below w.heap.size w w' := by
  obtain ⟨u, i0, t⟩ := v
  have hb0 : Below w.heap.size w (w.alloc (vB ⟨u, i0, t⟩)) := belowA w _
  obtain ⟨s, hs⟩ : ∃ s : ByteArray, s = ⟨t.toArray⟩ := ⟨_, rfl⟩
  have hst : s.data.toList = t := by rw [hs]
  have hss : s.size = t.length := by rw [hs]; show t.toArray.size = _; simp
  have eV : ∀ w1 : World, w1.alloc (.cells #[.int .u64 u, .int .i64 i0, .string s] 62) = w1.alloc (vB ⟨u, i0, t⟩) := fun _ => by rw [hs]; rfl
  have c0 : (w.alloc (vB ⟨u, i0, t⟩)).cell? ⟨w.heap.size, 0, none⟩ = some (.int .u64 u) := (vB_cells (heap_alloc_new w (vB ⟨u, i0, t⟩))).1
  have c1 : (w.alloc (vB ⟨u, i0, t⟩)).cell? ⟨w.heap.size, 1, none⟩ = some (.int .i64 i0) := (vB_cells (heap_alloc_new w (vB ⟨u, i0, t⟩))).2.1
  have c2 : (w.alloc (vB ⟨u, i0, t⟩)).cell? ⟨w.heap.size, 2, none⟩ = some (.string s) := by rw [hs]; exact (vB_cells (heap_alloc_new w (vB ⟨u, i0, t⟩))).2.2
  have HSz := refSize_any 9
  have hsk : sizeK 9 = 0 := rfl
  rw [hsk] at HSz
  have HF : Hid (∀ b c, (b = (decide (u = 0) && decide (i0 = 0))) → c = esc t ++ [0, 0] → CodeR 9 ⟨u, i0, t⟩ (.returned (.tuple #[.string ⟨c.toArray⟩, .bool b]))) := fun b c hb hc => by
    refine ⟨c, b, rfl, ?_, ?_⟩
    · rw [hb]; simp [FitV]
    · intro _; rw [hc]; simp [encV]
  have HT : Hid (s.data.toList = t) := hst
  have hl2 : t.length ≤ 4611686018427387000 := hlen
  have hv1 := hv.1
  dsimp only at hv1
  unfold valV
  dsimp only
  rw [← hs]
  clear hst hlen hv hs hsk
  go_enter Try.func60, Try.ntmps60
  go_wp2_with ((go_at_call 58; refine (HSz _ (by omega)).mono ?_; rintro e w1 ⟨rfl, hw1⟩; subst hw1))
  go_loopg [7, 8] s.size (fun gk s7 s8 wr => ∃ (i : Nat) (a : ByteArray), s8 = .int .i64 i ∧ i ≤ s.size ∧ gk = s.size - i ∧ wr = w.alloc (vB ⟨u, i0, t⟩) ∧ s7 = .string a ∧ Hid (a = ⟨(esc (t.take i)).toArray⟩) ∧ a.size ≤ 2 * i)
  case atStart => exact ⟨0, ⟨#[]⟩, rfl, by omega, rfl, rfl, rfl, rfl, by decide⟩
  case round =>
    obtain ⟨i, a, rfl, hi, rfl, rfl, rfl, HA, hal⟩ := hrel
    by_cases hlt : i < s.size
    · have hltI : (i : Int) < (s.size : Int) := by omega
      have hx := ext_one s i hlt
      have hxs : (⟨#[s[i]]⟩ : ByteArray).size = 1 := rfl
      have hsum : a.size + 1 ≤ 9223372036854775807 := by omega
      have HN : Hid (t.take (i + 1) = t.take i ++ [s[i]]) := by
        show t.take (i + 1) = t.take i ++ [s[i]]
        rw [← HT.out]; exact take_snoc s i hlt
      by_cases hz : s[i] = 0
      · have hzI : ((s[i].toNat : Nat) : Int) = 0 := by rw [hz]; rfl
        go_wp2
        go_roundg (s.size - (i + 1))
        case measure => omega
        case rel =>
          have s1 : (⟨#[0]⟩ : ByteArray).size = 1 := rfl
          have s2 : (⟨#[255]⟩ : ByteArray).size = 1 := rfl
          refine ⟨i + 1, _, by go_num, by omega, rfl, rfl, rfl, ?_, by simp [s1, s2]; omega⟩
          show _ = (⟨(esc (t.take (i + 1))).toArray⟩ : ByteArray)
          rw [HA.out, HN.out, esc_app, hz]
          have e1 := str_cat (esc (t.take i)) [0]
          have e2 := str_cat (esc (t.take i) ++ [0]) [255]
          rw [show (⟨#[0]⟩ : ByteArray) = ⟨([0] : Bs).toArray⟩ from rfl, show (⟨#[255]⟩ : ByteArray) = ⟨([255] : Bs).toArray⟩ from rfl, e1, e2]
          simp [esc]
      · have hzI : ¬ ((s[i].toNat : Nat) : Int) = 0 := fun h => hz (byte_ext (b := 0) h)
        go_wp2
        go_roundg (s.size - (i + 1))
        case measure => omega
        case rel =>
          refine ⟨i + 1, _, by go_num, by omega, rfl, rfl, rfl, ?_, by simp; omega⟩
          show _ = (⟨(esc (t.take (i + 1))).toArray⟩ : ByteArray)
          rw [HA.out, HN.out, esc_app]
          have e1 := str_cat (esc (t.take i)) [s[i]]
          rw [show (⟨#[s[i]]⟩ : ByteArray) = ⟨([s[i]] : Bs).toArray⟩ from rfl, e1]
          simp [esc, hz]
    · have hltI : ¬ (i : Int) < (s.size : Int) := by omega
      have hsum : a.size + 2 ≤ 9223372036854775807 := by omega
      have HE : Hid (a ++ ⟨#[0, 0]⟩ = ⟨(esc t ++ [0, 0]).toArray⟩) := by
        show a ++ ⟨#[0, 0]⟩ = _
        have : t.take i = t := List.take_of_length_le (by omega)
        rw [HA.out, this]
        exact str_cat (esc t) [0, 0]
      by_cases hu0 : u = 0
      · subst hu0
        have hd : (((0 : Nat) : Int) == 0) = true := rfl
        go_wp2
        go_quiet (fail)
        go_wp2
        go_ret2
        refine ⟨?_, belowN hb0 _⟩
        have := HF.out (i0 == 0) (esc t ++ [0, 0]) (by rw [Bool.eq_iff_iff]; simp) rfl
        rw [← HE.out] at this
        exact this
      · have hd : ((u : Int) == 0) = false := by simp; omega
        go_wp2
        go_quiet (fail)
        go_wp2
        go_ret2
        refine ⟨?_, belowN hb0 _⟩
        have := HF.out false (esc t ++ [0, 0]) (by simp [hu0]) rfl
        rw [← HE.out] at this
        exact this

set_option maxRecDepth 100000 in
set_option maxHeartbeats 4000000 in
theorem refCode_num (k : Int) (v : ValD) (w : World) (hk : 1 ≤ k ∧ k ≤ 8) (hv : ValOk v) : Calls Try.prog 60 #[.int .i64 k, valV v] w fun e w' => CodeR k v e ∧ Below w.heap.size w w' := by
  obtain ⟨u, i0, t⟩ := v
  have hb0 : Below w.heap.size w (w.alloc (vB ⟨u, i0, t⟩)) := belowA w _
  have eV : ∀ w1 : World, w1.alloc (.cells #[.int .u64 u, .int .i64 i0, .string ⟨t.toArray⟩] 62) = w1.alloc (vB ⟨u, i0, t⟩) := fun _ => rfl
  have c0 : (w.alloc (vB ⟨u, i0, t⟩)).cell? ⟨w.heap.size, 0, none⟩ = some (.int .u64 u) := (vB_cells (heap_alloc_new w (vB ⟨u, i0, t⟩))).1
  have c1 : (w.alloc (vB ⟨u, i0, t⟩)).cell? ⟨w.heap.size, 1, none⟩ = some (.int .i64 i0) := (vB_cells (heap_alloc_new w (vB ⟨u, i0, t⟩))).2.1
  have c2 : (w.alloc (vB ⟨u, i0, t⟩)).cell? ⟨w.heap.size, 2, none⟩ = some (.string ⟨t.toArray⟩) := (vB_cells (heap_alloc_new w (vB ⟨u, i0, t⟩))).2.2
  have HSz := fun w1 => refSize_any k w1 (by omega)
  have h9 : ¬ k = 9 := by omega
  have hsk : sizeK k = widthOf k := if_neg h9
  rw [hsk] at HSz
  have hwc := widthOf_cases k
  have HLe := fun w1 => least_any (widthOf k) w1 hwc
  have HDi : Hid (∀ n : Nat, n < 18446744073709551616 → Calls Try.prog 94 #[.int .u64 n, .int .i64 (widthOf k)] (w.alloc (vB ⟨u, i0, t⟩)) fun e w' => e = .returned (.tuple #[.string ⟨(dg (widthOf k) n).toArray⟩, .bool (decide (n / 256 ^ widthOf k = 0))]) ∧ Below w.heap.size w w') := fun n hn =>
    (digits_any n (widthOf k) _ hn (by rcases hwc with h | h | h | h <;> omega)).mono fun e w' he => ⟨he.1, hb0.trans (he.2.mono hb0.size)⟩
  obtain ⟨hv1, hv2, hv3⟩ := hv
  dsimp only at hv1 hv2 hv3
  have hneg : ∀ b c, (¬ FitV k ⟨u, i0, t⟩) → b = false → CodeR k ⟨u, i0, t⟩ (.returned (.tuple #[.string ⟨(c : Bs).toArray⟩, .bool b])) := fun b c hn hb => ⟨c, b, rfl, by rw [hb]; exact ⟨(fun h => by cases h), fun h => absurd h hn⟩, fun h => absurd h hn⟩
  have HNeg : Hid (∀ b c, (¬ FitV k ⟨u, i0, t⟩) → b = false → CodeR k ⟨u, i0, t⟩ (.returned (.tuple #[.string ⟨(c : Bs).toArray⟩, .bool b]))) := hneg
  clear hneg hsk
  unfold valV
  dsimp only
  by_cases h5 : 5 ≤ k
  · by_cases hr : -(2 ^ (8 * widthOf k - 1) : Int) ≤ i0 ∧ i0 ≤ 2 ^ (8 * widthOf k - 1) - 1
    · obtain ⟨hr1, hr2⟩ := hr
      by_cases hu0 : u = 0
      · by_cases ht : t = []
        · subst hu0; subst ht
          have hfit : FitV k ⟨0, i0, []⟩ := by
            unfold FitV; rw [if_neg h9, if_pos h5]; exact ⟨rfl, rfl, hr1, by dsimp only; omega⟩
          obtain ⟨hn1, hn2⟩ := numOf_fit h9 h5 hfit ⟨by dsimp only; omega, hv2, hv3⟩
          have hw : numOf k ⟨0, i0, []⟩ / 256 ^ widthOf k = 0 := by
            have hph := pow_half k
            have e1 : numOf k ⟨0, i0, []⟩ = (i0 + 2 ^ (8 * widthOf k - 1)).toNat := by simp [numOf, h5]
            apply Nat.div_eq_of_lt
            have : ((numOf k ⟨0, i0, []⟩ : Nat) : Int) < ((256 ^ widthOf k : Nat) : Int) := by
              rw [e1, Int.natCast_pow]
              have h2 : ((256 : Nat) : Int) = 256 := rfl
              rw [h2, hph]
              omega
            exact_mod_cast this
          have HD2 : Hid (∀ x : Int, x = (numOf k ⟨0, i0, []⟩ : Nat) → Calls Try.prog 94 #[.int .u64 x, .int .i64 (widthOf k)] (w.alloc (vB ⟨0, i0, []⟩)) fun e w' => CodeR k ⟨0, i0, []⟩ e ∧ (∃ c : Bs, e = .returned (.tuple #[.string ⟨c.toArray⟩, .bool true])) ∧ Below w.heap.size w w') := fun x hx => by
            rw [hx]
            refine (HDi.out _ hn2).mono ?_
            rintro e w' ⟨h1, h2⟩
            rw [hw] at h1
            refine ⟨⟨dg (widthOf k) (numOf k ⟨0, i0, []⟩), true, by rw [h1]; rfl, ⟨fun _ => hfit, fun _ => rfl⟩, fun _ => by simp [encV, h9]⟩, ⟨_, by rw [h1]; rfl⟩, h2⟩
          have hn1' : Hid ((i0 + 2 ^ (8 * widthOf k - 1)) % 18446744073709551616 = (numOf k ⟨0, i0, []⟩ : Nat)) := hn1
          clear hn1 hn2 hw HDi hfit HNeg
          generalize numOf k ⟨0, i0, []⟩ = nn at *
          rcases hwc with h | h | h | h
          all_goals
            rw [h] at HSz HLe HD2 hr1 hr2 hn1'
            simp only [Nat.reduceMul, Nat.reduceSub, Int.reducePow] at HLe hr1 hr2
            clear h
            go_enter Try.func60, Try.ntmps60
            go_wp2_with (first
              | (go_at_call 58; refine (HSz _).mono ?_; rintro e w1 ⟨rfl, hw1⟩; subst hw1)
              | (go_at_call 59; refine (HLe _).mono ?_; rintro e w1 ⟨rfl, hw1⟩; subst hw1)
              | (go_at_call 94; refine (HD2.out _ (by rw [← hn1'.out]; simp only [IntKind.wrap_u64, Nat.reduceMul, Nat.reduceSub, Int.reducePow]; omega)).mono ?_; rintro e w2 ⟨hcr, ⟨c, rfl⟩, hb2⟩))
            go_ret2
            exact ⟨hcr, hb2⟩
        · have hte : List.isEmpty t = false := by
            cases t with
            | nil => exact absurd rfl ht
            | cons a l => rfl
          have HFn : Hid (¬ FitV k ⟨u, i0, t⟩) := by
            show ¬ FitV k ⟨u, i0, t⟩
            unfold FitV; rw [if_neg h9, if_pos h5]; exact fun h => ht h.2.1
          subst hu0
          clear ht
          clear HDi
          rcases hwc with h | h | h | h
          all_goals
            rw [h] at HSz HLe
            rw [h] at hr1 hr2
            simp only [Nat.reduceMul, Nat.reduceSub, Int.reducePow] at HLe hr1 hr2
            clear h
            go_enter Try.func60, Try.ntmps60
            go_wp2_with (first
              | (go_at_call 58; refine (HSz _).mono ?_; rintro e w1 ⟨rfl, hw1⟩; subst hw1)
              | (go_at_call 59; refine (HLe _).mono ?_; rintro e w1 ⟨rfl, hw1⟩; subst hw1))
            all_goals go_ret2
            all_goals exact ⟨HNeg.out false [] HFn.out rfl, hb0⟩
      · have hu1 : ¬ ((u : Int) = 0) := by omega
        have HFn : Hid (¬ FitV k ⟨u, i0, t⟩) := by
          show ¬ FitV k ⟨u, i0, t⟩
          unfold FitV; rw [if_neg h9, if_pos h5]; exact fun h => hu0 h.1
        clear HDi
        rcases hwc with h | h | h | h
        all_goals
          rw [h] at HSz HLe
          rw [h] at hr1 hr2
          simp only [Nat.reduceMul, Nat.reduceSub, Int.reducePow] at HLe hr1 hr2
          clear h
          go_enter Try.func60, Try.ntmps60
          go_wp2_with (first
            | (go_at_call 58; refine (HSz _).mono ?_; rintro e w1 ⟨rfl, hw1⟩; subst hw1)
            | (go_at_call 59; refine (HLe _).mono ?_; rintro e w1 ⟨rfl, hw1⟩; subst hw1))
          all_goals go_ret2
          all_goals exact ⟨HNeg.out false [] HFn.out rfl, hb0⟩
    · have HFn : Hid (¬ FitV k ⟨u, i0, t⟩) := by
        show ¬ FitV k ⟨u, i0, t⟩
        unfold FitV; rw [if_neg h9, if_pos h5]; exact fun h => hr ⟨h.2.2.1, by have := h.2.2.2; dsimp only at this; omega⟩
      by_cases hlow : i0 < -(2 ^ (8 * widthOf k - 1) : Int)
      · clear hr
        clear HDi
        rcases hwc with h | h | h | h
        all_goals
          rw [h] at HSz HLe
          rw [h] at hlow
          simp only [Nat.reduceMul, Nat.reduceSub, Int.reducePow] at HLe hlow
          clear h
          go_enter Try.func60, Try.ntmps60
          go_wp2_with (first
            | (go_at_call 58; refine (HSz _).mono ?_; rintro e w1 ⟨rfl, hw1⟩; subst hw1)
            | (go_at_call 59; refine (HLe _).mono ?_; rintro e w1 ⟨rfl, hw1⟩; subst hw1))
          all_goals go_ret2
          all_goals exact ⟨HNeg.out false [] HFn.out rfl, hb0⟩
      · have hhigh : 2 ^ (8 * widthOf k - 1) - 1 < i0 := by
          rcases Decidable.em (i0 ≤ 2 ^ (8 * widthOf k - 1) - 1) with h | h
          · exact absurd ⟨by omega, h⟩ hr
          · omega
        clear hr
        clear HDi
        rcases hwc with h | h | h | h
        all_goals
          rw [h] at HSz HLe
          rw [h] at hlow hhigh
          simp only [Nat.reduceMul, Nat.reduceSub, Int.reducePow] at HLe hlow hhigh
          clear h
          go_enter Try.func60, Try.ntmps60
          go_wp2_with (first
            | (go_at_call 58; refine (HSz _).mono ?_; rintro e w1 ⟨rfl, hw1⟩; subst hw1)
            | (go_at_call 59; refine (HLe _).mono ?_; rintro e w1 ⟨rfl, hw1⟩; subst hw1))
          all_goals go_ret2
          all_goals exact ⟨HNeg.out false [] HFn.out rfl, hb0⟩
  · clear HLe
    by_cases hi0 : i0 = 0
    · by_cases ht : t = []
      · subst hi0; subst ht
        have HD2 : Hid (Calls Try.prog 94 #[.int .u64 u, .int .i64 (widthOf k)] (w.alloc (vB ⟨u, 0, []⟩)) fun e w' => CodeR k ⟨u, 0, []⟩ e ∧ (∃ (c : Bs) (b : Bool), e = .returned (.tuple #[.string ⟨c.toArray⟩, .bool b])) ∧ Below w.heap.size w w') := by
          refine (HDi.out u hv1).mono ?_
          rintro e w' ⟨h1, h2⟩
          refine ⟨⟨dg (widthOf k) u, _, h1, ?_, fun _ => by simp [encV, h9, numOf, h5]⟩, ⟨_, _, h1⟩, h2⟩
          unfold FitV
          rw [if_neg h9, if_neg h5]
          simp only [decide_eq_true_eq, true_and]
          have hp : 0 < 256 ^ widthOf k := Nat.pow_pos (by decide)
          rw [Nat.div_eq_zero_iff]
          omega
        clear HDi HNeg hwc
        generalize widthOf k = m at *
        go_enter Try.func60, Try.ntmps60
        go_wp2_with (first
          | (go_at_call 58; refine (HSz _).mono ?_; rintro e w1 ⟨rfl, hw1⟩; subst hw1)
          | (go_at_call 94; refine HD2.out.mono ?_; rintro e w2 ⟨hcr, ⟨c, b, rfl⟩, hb2⟩))
        go_ret2
        exact ⟨hcr, hb2⟩
      · have hte : List.isEmpty t = false := by
          cases t with
          | nil => exact absurd rfl ht
          | cons a l => rfl
        have HFn : Hid (¬ FitV k ⟨u, i0, t⟩) := by
          show ¬ FitV k ⟨u, i0, t⟩
          unfold FitV; rw [if_neg h9, if_neg h5]; exact fun h => ht h.2.1
        subst hi0
        clear ht HDi hwc
        generalize widthOf k = m at *
        go_enter Try.func60, Try.ntmps60
        go_wp2_with ((go_at_call 58; refine (HSz _).mono ?_; rintro e w1 ⟨rfl, hw1⟩; subst hw1))
        all_goals go_ret2
        all_goals exact ⟨HNeg.out false [] HFn.out rfl, hb0⟩
    · have HFn : Hid (¬ FitV k ⟨u, i0, t⟩) := by
        show ¬ FitV k ⟨u, i0, t⟩
        unfold FitV; rw [if_neg h9, if_neg h5]; exact fun h => hi0 h.1
      clear HDi hwc
      generalize widthOf k = m at *
      go_enter Try.func60, Try.ntmps60
      go_wp2_with ((go_at_call 58; refine (HSz _).mono ?_; rintro e w1 ⟨rfl, hw1⟩; subst hw1))
      all_goals go_ret2
      all_goals exact ⟨HNeg.out false [] HFn.out rfl, hb0⟩
theorem refCode_any (k : Int) (v : ValD) (w : World) (hk : 1 ≤ k ∧ k ≤ 9) (hv : ValOk v) (hlen : v.s.length ≤ 4611686018427387000) : Calls Try.prog 60 #[.int .i64 k, valV v] w fun e w' => CodeR k v e ∧ Below w.heap.size w w' := by
  by_cases h9 : k = 9
  · subst h9; exact refCode_text v w hv hlen
  · exact refCode_num k v w ⟨hk.1, by omega⟩ hv

end Go.Proofs.Ytcgjppacnhmjlaa
