/- Going through: Walk, Scan. -/
import Derived.Test.YtcgjppacnhmjlaaGreatWalkB
import Derived.Test.YtcgjppacnhmjlaaGreatSilent
import Derived.RangeFuncNested
import Derived.RangeFuncBound
import Derived.RangeFuncCalls
import Derived.RangeFuncLeaves
import Derived.Shelf.Abstract
import Derived.Shelf.RegionOpen
import Derived.WalkKit
import Derived.OwnWalkIn
import Derived.TacticsInMore
import Derived.LoopNIn
import Derived.LoopIn
set_option linter.unusedVariables false
set_option linter.unusedSimpArgs false
namespace Go.Proofs.YtcgjppacnhmjlaaGreat
open Go.RowKit Go.Shelf
attribute [local go_sem] Oper.semAt_some

/-- What a round answers. -/
def YieldOk {α : Type} (S : Nat → Prop) (J Jx : List α → World → Prop) (val : α → KV) (lb N : Nat) : Prop :=
  ∀ m pre x W, J pre W → pre.length < N → YieldAt Fence.wide m Tryz.prog lb #[.string ⟨(val x).1.toArray⟩, .int .i64 (val x).2] W fun e W' =>
    (e = .returned (.bool true) ∧ J (pre ++ [x]) W' ∧ Kept S W W') ∨ (e = .returned (.bool false) ∧ Jx (pre ++ [x]) W')
theorem str_back (p : ByteArray) : (⟨p.data.toList.toArray⟩ : ByteArray) = p := by
  obtain ⟨⟨l⟩⟩ := p
  rfl

section
variable {α : Type} {S : Nat → Prop} {J Jx : List α → World → Prop} {val : α → KV} {fr to : ByteArray} {lb N n n₀ : Nat}
theorem round_arm {m : Nat} {P : Program} {l : Nat} {f : FuncId} {tmps : Array Value} {assign body : Code} {w : World} {R R' : Ending → World → Prop} (h : Hid (RoundIn Fence.wide m P l f tmps assign body w R)) (h2 : ∀ e w', R e w' → R' e w') : RoundIn Fence.wide m P l f tmps assign body w R' := h.out.mono h2
theorem round_arm2 {A : Prop} {m : Nat} {P : Program} {l : Nat} {f : FuncId} {tmps : Array Value} {assign body : Code} {w : World} {R R' : Ending → World → Prop} (h : Hid (RoundIn Fence.wide m P l f tmps assign body w R)) (hA : A) (h2 : ∀ e w', R e w' → R' e w') : A ∧ RoundIn Fence.wide m P l f tmps assign body w R' := ⟨hA, h.out.mono h2⟩
theorem less_back (a b : ByteArray) : Op.bytesLess a.toList b.toList = Op.bytesLess a.data.toList b.data.toList := by
  obtain ⟨⟨l⟩⟩ := a
  obtain ⟨⟨m⟩⟩ := b
  simp
theorem empty_back (a : ByteArray) : a.toList.isEmpty = a.data.toList.isEmpty := by
  obtain ⟨⟨l⟩⟩ := a
  simp
set_option maxRecDepth 100000 in
set_option maxHeartbeats 1000000 in
/-- Walk at a node whose prefix is in the range and that has a value. -/
theorem walk_own (hG : Goes S n₀ J) (hY : YieldOk S J Jx val lb N) {W : World} {t vb : Nat} {p : ByteArray} {v : Int} {bv : Value} {pre ys : List α} {x : α} (h0 : W.cell? ⟨t, 0, none⟩ = some (.string p)) (h1 : W.cell? ⟨t, 1, none⟩ = some (.pointer (some ⟨vb, 0, none⟩))) (hv : W.cell? ⟨vb, 0, none⟩ = some (.int .i64 v))
    (h2 : W.cell? ⟨t, 2, none⟩ = some bv) (hSt : S t) (hto : to.data.toList.isEmpty = true ∨ Op.bytesLess p.data.toList to.data.toList = true) (hfr : Op.bytesLess p.data.toList fr.data.toList = false) (hx : val x = (p.data.toList, v)) (hJ : J pre W) (hN : pre.length < N) {l : List KV}
    (hA : ∀ W1, J (pre ++ [x]) W1 → Kept S W W1 → Calls Tryz.prog 62 #[bv, .string fr, .string to, .func (.yield lb) #[] #[]] W1 fun e W' => ∃ b, e = .returned (.bool b) ∧ WalkR S J Jx to.data.toList l pre (x :: ys) W (.returned (.bool b)) W') :
    Calls Tryz.prog 43 #[.pointer (some ⟨t, 0, none⟩), .string fr, .string to, .func (.yield lb) #[] #[]] W (WalkR S J Jx to.data.toList l pre (x :: ys) W) := by
  have hd : Below W.heap.size W W.drew := (Below.refl _ _).drew
  have hY1 : YieldAt Fence.wide 2 Tryz.prog lb #[.string p, .int .i64 v] W.drew fun e W' => ∃ b, e = .returned (.bool b) ∧ Hid ((b = true ∧ J (pre ++ [x]) W' ∧ Kept S W W') ∨ (b = false ∧ Jx (pre ++ [x]) W')) := by
    have h := hY 2 pre x W.drew (hG.later _ _ _ hJ hd) hN
    rw [hx, str_back] at h
    refine YieldAt.mono h fun e W' h => ?_
    rcases h with ⟨h3, h4, h5⟩ | ⟨h3, h4⟩
    · exact ⟨true, h3, .inl ⟨rfl, h4, (hG.kept hJ hd).trans h5⟩⟩
    · exact ⟨false, h3, .inr ⟨rfl, h4⟩⟩
  obtain ⟨fn, tmps, assign, body, hy, hR⟩ := hY1
  have HA : Hid (∀ W1, J (pre ++ [x]) W1 → Kept S W W1 → Calls Tryz.prog 62 #[bv, .string fr, .string to, .func (.yield lb) #[] #[]] W1 fun e W' => ∃ b, e = .returned (.bool b) ∧ WalkR S J Jx to.data.toList l pre (x :: ys) W (.returned (.bool b)) W') := hA
  have HSt : Hid (S t ∧ W.cell? ⟨t, 2, none⟩ = some bv) := ⟨hSt, h2⟩
  have hf1 : Op.bytesLess p.toList fr.toList = false := by rw [less_back]; exact hfr
  have ht1 : (!to.toList.isEmpty && !Op.bytesLess p.toList to.toList) = false := by
    rw [less_back, empty_back]
    rcases hto with h | h <;> rw [h] <;> simp
  have HR : Hid (RoundIn Fence.wide 2 Tryz.prog lb fn tmps assign body W.drew fun e W' => ∃ b, e = .returned (.bool b) ∧ Hid ((b = true ∧ J (pre ++ [x]) W' ∧ Kept S W W') ∨ (b = false ∧ Jx (pre ++ [x]) W'))) := hR
  clear hJ hY hA hG hx hfr hto hN h2 hR
  refine (callsIn_wide (n := 3)).1 ?_
  refine callsIn_of_wp Tryz.func43 rfl trivial ?_ rfl
  simp only [Tryz.ntmps43, List.size_toArray, List.length_cons, List.length_nil, Nat.reduceAdd, Nat.reduceSub, Array.replicate_succ, Array.replicate_zero, List.push_toArray, List.append_toArray, List.nil_append, List.cons_append]
  have hcase : to.toList.isEmpty = true ∨ (to.toList.isEmpty = false ∧ Op.bytesLess p.toList to.toList = true) := by
    cases h3 : to.toList.isEmpty with
    | true => exact .inl rfl
    | false =>
      rw [h3] at ht1
      simp at ht1
      exact .inr ⟨rfl, ht1⟩
  clear ht1
  rcases hcase with hte | ⟨hte, hle⟩
  all_goals
    gi_wp2
    refine wpIn_region_any (by kernel_rfl) ?_
    change wpAnyIn _ _ _ _ _ _ 20 _ _ (World.drew _)
    generalize hops : (#[_, _, _, _, _, _, _, _, _, _, _, _, _, _, _, _, _, _, _, _] : Array Oper) = ops
    have hsil : Silent ops 17 := by rw [← hops]; exact silent_of (by kernel_rfl)
    have hosz : ops.size = 20 := by rw [← hops]; rfl
    obtain ⟨V, hV⟩ : ∃ V : Nat → Value, V = fun i => ([.pointer (some ⟨t, 0, none⟩), .pointer (some ⟨t, 0, none⟩), .pointer (some ⟨t, 1, none⟩), .pointer (some ⟨vb, 0, none⟩), .bool true, .bool true, .func (.yield lb) #[] #[], .pointer (some ⟨t, 0, none⟩), .pointer (some ⟨t, 0, none⟩), .pointer (some ⟨t, 0, none⟩), .string p, .pointer (some ⟨t, 0, none⟩), .pointer (some ⟨t, 0, none⟩), .pointer (some ⟨t, 1, none⟩), .pointer (some ⟨vb, 0, none⟩), .pointer (some ⟨vb, 0, none⟩), .int .i64 v] : List Value).getD i undef := ⟨_, rfl⟩
    have hdst : ∀ j, j < 17 → dstOf ops j = some (32 + j) := by
      intro j hj
      have : j = 0 ∨ j = 1 ∨ j = 2 ∨ j = 3 ∨ j = 4 ∨ j = 5 ∨ j = 6 ∨ j = 7 ∨ j = 8 ∨ j = 9 ∨ j = 10 ∨ j = 11 ∨ j = 12 ∨ j = 13 ∨ j = 14 ∨ j = 15 ∨ j = 16 := by omega
      rw [← hops]
      rcases this with rfl | rfl | rfl | rfl | rfl | rfl | rfl | rfl | rfl | rfl | rfl | rfl | rfl | rfl | rfl | rfl | rfl <;> rfl
    have hun : unl 17 (Array.replicate 20 false) = [0, 1, 2, 3, 4, 5, 6, 7, 8, 9, 10, 11, 12, 13, 14, 15, 16] := by kernel_rfl
    rw [hosz]
    generalize hact : ({ tmps := _, defers := _ } : Act) = a0
    obtain ⟨aAll, haAll⟩ : ∃ aAll, putAll ops V [0, 1, 2, 3, 4, 5, 6, 7, 8, 9, 10, 11, 12, 13, 14, 15, 16] a0 = aAll := ⟨_, rfl⟩
    have haA := haAll
    rw [← hact] at haA
    simp only [putAll, List.foldl, hdst 0 (by decide), hdst 1 (by decide), hdst 2 (by decide), hdst 3 (by decide), hdst 4 (by decide), hdst 5 (by decide), hdst 6 (by decide), hdst 7 (by decide), hdst 8 (by decide), hdst 9 (by decide), hdst 10 (by decide), hdst 11 (by decide), hdst 12 (by decide), hdst 13 (by decide), hdst 14 (by decide), hdst 15 (by decide), hdst 16 (by decide), Act.put, hV] at haA
    simp at haA
    refine silent_walk (V := V) hsil rfl aAll 3 ?hop ?hrest 17 _ _ (by simp [hosz]) (by rw [hun]; rfl) (by rw [hun]; exact haAll) ?hno ?hcl
    case hno => intro i h1 h2; rw [hosz] at h2; simp [h2]
    case hcl =>
      intro i j h1
      exfalso
      rw [Array.getD_eq_getD_getElem?, Array.getElem?_replicate] at h1
      split at h1 <;> simp at h1
    case hop =>
      rw [← haA]
      intro i hi o ho
      have : i = 0 ∨ i = 1 ∨ i = 2 ∨ i = 3 ∨ i = 4 ∨ i = 5 ∨ i = 6 ∨ i = 7 ∨ i = 8 ∨ i = 9 ∨ i = 10 ∨ i = 11 ∨ i = 12 ∨ i = 13 ∨ i = 14 ∨ i = 15 ∨ i = 16 := by omega
      rw [← hops] at ho
      rcases this with rfl | rfl | rfl | rfl | rfl | rfl | rfl | rfl | rfl | rfl | rfl | rfl | rfl | rfl | rfl | rfl | rfl
      all_goals (cases ho; rw [← hops]; refine ⟨by rfl, ?_, ?_⟩)
      all_goals (first | rfl | (simp [hV, go_sem, h0, h1, hv]; done) | skip)
    case hrest =>
      have hup : upTo' ops 17 = #[true, true, true, true, true, true, true, true, true, true, true, true, true, true, true, true, true, false, false, false] := by rw [← hops]; kernel_rfl
      rw [hup]
      clear haAll hact hup hun hdst hsil hosz hV
      subst haA
      subst hops
      refine wpAnyIn_all (rs := [17]) (by kernel_rfl) (by simp) ?_
      intro i hi
      obtain rfl := List.mem_singleton.1 hi
      refine wpOpIn_step rfl ?_
      intro K hK
      go_simp
      refine HR.out.mono ?_
      rintro e W1 ⟨b, rfl, HB⟩
      refine hK _ _ ?_
      refine wpAnyIn_all (rs := [18]) (by kernel_rfl) (by simp) ?_
      intro i hi
      obtain rfl := List.mem_singleton.1 hi
      refine wpOpIn_step rfl ?_
      intro K hK
      go_simp
      refine hK _ _ ?_
      refine wpAnyIn_all (rs := [19]) (by kernel_rfl) (by simp) ?_
      intro i hi
      obtain rfl := List.mem_singleton.1 hi
      refine wpOpIn_step rfl ?_
      intro K hK
      go_simp
      refine hK _ _ ?_
      refine wpAnyIn_done (by kernel_rfl) ?_ _
      clear HR
      rcases HB.out with ⟨rfl, hJ1, hK1⟩ | ⟨rfl, hJx⟩
      · have h2' := hK1.cell HSt.out.1 HSt.out.2
        have HJK : Hid (J (pre ++ [x]) W1 ∧ Kept S W W1) := ⟨hJ1, hK1⟩
        clear hJ1 hK1
        gi_wp2
        refine ⟨trivial, ?_⟩
        refine (callsIn_wide.2 (HA.out _ HJK.out.1 HJK.out.2)).mono ?_
        rintro e W2 ⟨b2, rfl, hE⟩
        have HE : Hid (WalkR S J Jx to.data.toList l pre (x :: ys) W (.returned (.bool b2)) W2) := hE
        clear hE
        gi_wp2
        go_ret
        exact HE.out
      · have HX : Hid (Jx (pre ++ [x]) W1) := hJx
        clear hJx
        gi_wp2
        go_ret
        exact .inr ⟨rfl, [x], ⟨ys, rfl⟩, HX.out⟩
attribute [local go_sem ↓] Go.wp_at_zero Go.wp_at_succ
set_option maxRecDepth 100000 in
set_option maxHeartbeats 1000000 in
/-- Walk at a node whose prefix is at to or behind it. -/
theorem walk_past {W : World} {t : Nat} {p : ByteArray} {pre : List α} {l : List KV} (h0 : W.cell? ⟨t, 0, none⟩ = some (.string p)) (hto : to.data.toList.isEmpty = false) (hle : Op.bytesLess p.data.toList to.data.toList = false) (hJ : J pre W) (hP : Past to.data.toList l) :
    Calls Tryz.prog 43 #[.pointer (some ⟨t, 0, none⟩), .string fr, .string to, .func (.yield lb) #[] #[]] W (WalkR S J Jx to.data.toList l pre [] W) := by
  have HJ : Hid (J pre W ∧ Past to.data.toList l) := ⟨hJ, hP⟩
  have h1 : to.toList.isEmpty = false := by rw [empty_back]; exact hto
  have h2 : Op.bytesLess p.toList to.toList = false := by rw [less_back]; exact hle
  clear hJ hP hto hle
  go_enter Tryz.func43, Tryz.ntmps43
  go_wp2
  go_ret
  exact .inl ⟨false, rfl, by simpa using HJ.out.1, Kept.refl _ _, fun _ => HJ.out.2⟩
set_option maxRecDepth 100000 in
set_option maxHeartbeats 1000000 in
/-- Walk at a node whose prefix is ahead of from. -/
theorem walk_ahead {W : World} {t : Nat} {p : ByteArray} {pre ys : List α} {l : List KV} (h0 : W.cell? ⟨t, 0, none⟩ = some (.string p)) (hto : to.data.toList.isEmpty = true ∨ Op.bytesLess p.data.toList to.data.toList = true) (hfr : Op.bytesLess p.data.toList fr.data.toList = true)
    (hB : Calls Tryz.prog 61 #[.pointer (some ⟨t, 0, none⟩), .string fr, .string to, .func (.yield lb) #[] #[]] W (WalkR S J Jx to.data.toList l pre ys W)) :
    Calls Tryz.prog 43 #[.pointer (some ⟨t, 0, none⟩), .string fr, .string to, .func (.yield lb) #[] #[]] W (WalkR S J Jx to.data.toList l pre ys W) := by
  have HB : Hid (Calls Tryz.prog 61 #[.pointer (some ⟨t, 0, none⟩), .string fr, .string to, .func (.yield lb) #[] #[]] W fun e W' => ∃ b, e = .returned (.bool b) ∧ WalkR S J Jx to.data.toList l pre ys W (.returned (.bool b)) W') := hB.mono fun e W' h => h.ret
  have h3 : Op.bytesLess p.toList fr.toList = true := by rw [less_back]; exact hfr
  have hcase : to.toList.isEmpty = true ∨ (to.toList.isEmpty = false ∧ Op.bytesLess p.toList to.toList = true) := by
    rw [empty_back, less_back]
    cases h3 : to.data.toList.isEmpty with
    | true => exact .inl rfl
    | false =>
      rw [h3] at hto
      exact .inr ⟨rfl, by rcases hto with h | h; cases h; exact h⟩
  clear hB hto hfr
  rcases hcase with hte | ⟨hte, hle⟩
  all_goals
    go_enter Tryz.func43, Tryz.ntmps43
    go_wp2_with (go_at_call 61; refine HB.out.mono ?_; rintro e W2 ⟨b, rfl, hE⟩; have HE : Hid (WalkR S J Jx to.data.toList l pre ys W (.returned (.bool b)) W2) := hE; clear hE)
    go_ret
    exact HE.out
set_option maxRecDepth 100000 in
set_option maxHeartbeats 1000000 in
/-- Walk at a node in the range that has no value. -/
theorem walk_bare {W : World} {t : Nat} {p : ByteArray} {bv : Value} {pre ys : List α} {l : List KV} (h0 : W.cell? ⟨t, 0, none⟩ = some (.string p)) (h1 : W.cell? ⟨t, 1, none⟩ = some (.pointer none)) (h2 : W.cell? ⟨t, 2, none⟩ = some bv) (hto : to.data.toList.isEmpty = true ∨ Op.bytesLess p.data.toList to.data.toList = true) (hfr : Op.bytesLess p.data.toList fr.data.toList = false)
    (hA : ∀ q, Calls Tryz.prog 62 #[bv, .string fr, .string to, .func (.yield lb) #[] #[]] (W.drewN q) fun e W' => ∃ b, e = .returned (.bool b) ∧ WalkR S J Jx to.data.toList l pre ys W (.returned (.bool b)) W') :
    Calls Tryz.prog 43 #[.pointer (some ⟨t, 0, none⟩), .string fr, .string to, .func (.yield lb) #[] #[]] W (WalkR S J Jx to.data.toList l pre ys W) := by
  have HA : Hid (∀ q, Calls Tryz.prog 62 #[bv, .string fr, .string to, .func (.yield lb) #[] #[]] (W.drewN q) fun e W' => ∃ b, e = .returned (.bool b) ∧ WalkR S J Jx to.data.toList l pre ys W (.returned (.bool b)) W') := hA
  have h3 : Op.bytesLess p.toList fr.toList = false := by rw [less_back]; exact hfr
  have hcase : to.toList.isEmpty = true ∨ (to.toList.isEmpty = false ∧ Op.bytesLess p.toList to.toList = true) := by
    rw [empty_back, less_back]
    cases h3 : to.data.toList.isEmpty with
    | true => exact .inl rfl
    | false =>
      rw [h3] at hto
      exact .inr ⟨rfl, by rcases hto with h | h; cases h; exact h⟩
  clear hA hto hfr
  rcases hcase with hte | ⟨hte, hle⟩
  all_goals
    go_enter Tryz.func43, Tryz.ntmps43
    go_wp2
    go_quiet (fail)
    go_wp2_with (go_at_call 62; refine (HA.out _).mono ?_; rintro e W2 ⟨b, rfl, hE⟩; have HE : Hid (WalkR S J Jx to.data.toList l pre ys W (.returned (.bool b)) W2) := hE; clear hE)
    go_ret
    exact HE.out
end

end Go.Proofs.YtcgjppacnhmjlaaGreat
