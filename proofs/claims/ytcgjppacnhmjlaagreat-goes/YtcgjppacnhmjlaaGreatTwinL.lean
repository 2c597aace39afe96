/- step, where an index may be gone through. played, where indexes may be gone through. -/
import Derived.Test.YtcgjppacnhmjlaaGreatThrP
import Derived.Test.YtcgjppacnhmjlaaGreatTwinJ
set_option linter.unusedVariables false
set_option linter.unusedSimpArgs false
namespace Go.Proofs.YtcgjppacnhmjlaaGreat

section
open Go.RowKit
attribute [local go_sem ↓] Go.wp_at_zero Go.wp_at_succ

/-- A step that is handed in, with the steps within it. -/
structure OpGood (wb : World) (o : OpD) : Prop where
  fit : OpFits o
  till : o.till.size ≤ 9223372036854775807
  n : -9223372036854775808 ≤ o.n ∧ o.n ≤ 9223372036854775807
  sub : ∃ fs ms : List OpD, OpsAt wb (.slice o.fa o.fl o.fc) fs ∧ OpsAt wb (.slice o.ma o.ml o.mc) ms ∧ fs.length ≤ 9223372036854775807 ∧ ms.length ≤ 9223372036854775807 ∧ ∀ o' ∈ fs ++ ms, OpFits o'
theorem thr_any {wb w : World} {ρ : Nat → Nat} {W : Nat} {most : Int} {av : Value} {ts : TS} {o : OpD} (hz : ∀ k, k < wb.heap.size → ρ k = 0) (hb : Below wb.heap.size wb w) (h : Wd ρ w W most av ts) (hne : 0 < ts.length) (hm : most < 10) {i : Nat} {t : Nat × Nat × List KV} (ht : ts[i]? = some t) (ho : OpGood wb o) :
    Calls Tryz.prog 15 #[.pointer (some ⟨W, 0, none⟩), .agg #[.pointer (some ⟨t.1, 0, none⟩), .pointer (some ⟨t.2.1, 0, none⟩)], opV o] w fun e w' => e = .returned (.bool true) ∧ After ρ w W most av (ts.map pp) w' := by
  obtain ⟨fs, ms, h1, h2, h3, h4, h5⟩ := ho.sub
  have hin : ThrIn wb w ρ W most av ts i t o fs ms := ⟨hz, hb, h, ht, ho.fit.2, ho.till, ho.n, h1, h2, h3, h4, fun o' ho' ρ1 w1 ts1 e1 hw1 => by
    have hl : ts1.length = ts.length := by have := congrArg List.length e1; simpa using this
    have := plain_any (o := o') hw1 (by omega) hm (h5 o' ho').1 (h5 o' ho').2
    rw [e1] at this
    exact this⟩
  by_cases h7 : o.kind = 7
  · exact thr_prefix hin h7
  · exact thr_scan hin h7

set_option maxRecDepth 100000 in
set_option maxHeartbeats 2000000 in
theorem step7_any {wb : World} {ρ : Nat → Nat} {w : World} {W : Nat} {most : Int} {av : Value} {ts : TS} {o : OpD} (hz : ∀ k, k < wb.heap.size → ρ k = 0) (hbw : Below wb.heap.size wb w) (h : Wd ρ w W most av ts) (hne : 0 < ts.length) (hm : most < 10) (hk5 : o.kind < 8) (hgo : OpGood wb o) :
    Calls Tryz.prog 11 #[.pointer (some ⟨W, 0, none⟩), opV o] w fun e w' => e = .returned (.bool true) ∧ After ρ w W most av (ts.map pp) w' := by
  have hon := hgo.fit.1
  have hkey := hgo.fit.2
  have HThr : Hid (∀ w1 j (t : Nat × Nat × List KV), Below w.heap.size w w1 → ts[j]? = some t → (o.kind = 6 ∨ o.kind = 7) → Calls Tryz.prog 15 #[.pointer (some ⟨W, 0, none⟩), .agg #[.pointer (some ⟨t.1, 0, none⟩), .pointer (some ⟨t.2.1, 0, none⟩)], .agg #[.int .i64 o.kind, .int .i64 o.on, .int .i64 o.other, .string o.key, .string o.till, .int .i64 o.n, .slice o.pa o.pl o.pc, .slice o.fa o.fl o.fc, .slice o.ma o.ml o.mc]] w1 fun e w' => e = .returned (.bool true) ∧ After ρ w W most av (ts.map pp) w') := fun w1 j t hb hj _ =>
    (thr_any hz (hbw.trans (hb.mono hbw.size)) (h.on hb) hne hm hj hgo).mono fun e w' he => ⟨he.1, After.pre h.fresh hb he.2⟩
  have HPlain : Hid (∀ w1, Below w.heap.size w w1 → Calls Tryz.prog 22 #[.pointer (some ⟨W, 0, none⟩), .agg #[.int .i64 o.kind, .int .i64 o.on, .int .i64 o.other, .string o.key, .string o.till, .int .i64 o.n, .slice o.pa o.pl o.pc, .slice o.fa o.fl o.fc, .slice o.ma o.ml o.mc]] w1 fun e w' => e = .returned (.bool true) ∧ After ρ w W most av (ts.map pp) w') := fun w1 hb =>
    (plain_any (o := o) (h.on hb) hne hm hon hkey).mono fun e w' he => ⟨he.1, After.pre h.fresh hb he.2⟩
  have h8 := h.few
  obtain ⟨g, cap, rfl, hcap, hcells⟩ := pre_cells h hne
  have HC : Hid (∀ w1, Below w.heap.size w w1 → w1.cell? ⟨W, 0, none⟩ = some (.slice (some ⟨g, 0, none⟩) ts.length cap) ∧ w1.cell? ⟨W, 1, none⟩ = some (.int .i64 most) ∧ ∀ (j : Nat) t, ts[j]? = some t → w1.cell? ⟨g, j * 2, none⟩ = some (.pointer (some ⟨t.1, 0, none⟩)) ∧ w1.cell? ⟨g, j * 2 + 1, none⟩ = some (.pointer (some ⟨t.2.1, 0, none⟩))) := hcells
  have HB1 : Hid (∀ ob, Below w.heap.size w (w.alloc ob)) := fun ob => below_alloc w ob
  have HB2 : Hid (∀ ob ob', Below w.heap.size w ((w.alloc ob).alloc ob')) := fun ob ob' => (HB1.out ob).alloc (HB1.out ob).size _
  have HPick : Hid (∀ w1, Calls Tryz.prog 19 #[.int .i64 o.on, .int .i64 ts.length] w1 fun e w' => (∃ j : Nat, j < ts.length ∧ e = .returned (.int .i64 j)) ∧ w' = w1) := fun w1 => pick_any o.on ts.length w1 hne h8 hon
  have hWlt := idx_lt h.blk
  obtain ⟨xo, ro, hxr⟩ : ∃ xo ro : Nat → Nat, ∀ j, j < ts.length → ∃ t, ts[j]? = some t ∧ xo j = t.1 ∧ ro j = t.2.1 := ⟨fun j => ((ts[j]?).getD (0, 0, [])).1, fun j => ((ts[j]?).getD (0, 0, [])).2.1, fun j hj => ⟨_, List.getElem?_eq_getElem hj, by simp [hj], by simp [hj]⟩⟩
  have HX : Hid (∀ w1, Below w.heap.size w w1 → ∀ j, j < ts.length → w1.cell? ⟨g, j * 2, none⟩ = some (.pointer (some ⟨xo j, 0, none⟩)) ∧ w1.cell? ⟨g, j * 2 + 1, none⟩ = some (.pointer (some ⟨ro j, 0, none⟩))) := fun w1 hb j hj => by
    obtain ⟨t, ht, e1, e2⟩ := hxr j hj
    rw [e1, e2]
    exact (hcells w1 hb).2.2 j t ht
  have HXR : Hid (∀ j, j < ts.length → ∃ t, ts[j]? = some t ∧ xo j = t.1 ∧ ro j = t.2.1) := hxr
  clear h hcells hxr
  have p1 := fun ob => (HC.out _ (HB1.out ob)).1
  have p2 := fun ob ob' => (HC.out _ (HB2.out ob ob')).1
  have o2 : ∀ ob', ((w.alloc (opB o)).alloc ob').cell? ⟨w.heap.size, 1, none⟩ = some (.int .i64 o.on) := fun ob' => (opB_cells (old_new w (opB o) ob')).2.1
  have o1 : (w.alloc (opB o)).cell? ⟨w.heap.size, 1, none⟩ = some (.int .i64 o.on) := (opB_cells (heap_alloc_new w (opB o))).2.1
  have ebox : ∀ (w1 : World), w1.alloc (.cells #[.int .i64 o.kind, .int .i64 o.on, .int .i64 o.other, .string o.key, .string o.till, .int .i64 o.n, .slice o.pa o.pl o.pc, .slice o.fa o.fl o.fc, .slice o.ma o.ml o.mc] 39) = w1.alloc (opB o) := fun w1 => rfl
  unfold opV
  go_enter Tryz.func11, Tryz.ntmps11
  go_wp2_with fail
  go_cut [5] (fun s wx => ∃ (b j : Nat) (t : Nat × Nat × List KV), s = .pointer (some ⟨b, 0, none⟩) ∧ ts[j]? = some t ∧ Hid (Below w.heap.size w wx) ∧ wx.heap[w.heap.size]? = some (opB o) ∧ wx.heap[b]? = some (twB t.1 t.2.1))
  case first =>
    have hS : (fun w' : World => w'.cell? ⟨W, 0, none⟩ = some (.slice (some ⟨g, 0, none⟩) ts.length cap) ∧ w'.cell? ⟨w.heap.size, 1, none⟩ = some (.int .i64 o.on) ∧ ∀ j, j < ts.length → w'.cell? ⟨g, j * 2, none⟩ = some (.pointer (some ⟨xo j, 0, none⟩)) ∧ w'.cell? ⟨g, j * 2 + 1, none⟩ = some (.pointer (some ⟨ro j, 0, none⟩))) ((w.alloc (opB o)).drew) := ⟨p1 _, o1, fun j hj => HX.out _ (HB1.out _) j hj⟩
    have hS2 : ∀ ob', (fun w' : World => w'.cell? ⟨W, 0, none⟩ = some (.slice (some ⟨g, 0, none⟩) ts.length cap) ∧ w'.cell? ⟨w.heap.size, 1, none⟩ = some (.int .i64 o.on) ∧ ∀ j, j < ts.length → w'.cell? ⟨g, j * 2, none⟩ = some (.pointer (some ⟨xo j, 0, none⟩)) ∧ w'.cell? ⟨g, j * 2 + 1, none⟩ = some (.pointer (some ⟨ro j, 0, none⟩))) (((w.alloc (opB o)).alloc ob').drew) := fun ob' => ⟨p2 _ _, o2 _, fun j hj => HX.out _ (HB2.out _ _) j hj⟩
    go_region_held3 (fun w' => w'.cell? ⟨W, 0, none⟩ = some (.slice (some ⟨g, 0, none⟩) ts.length cap) ∧ w'.cell? ⟨w.heap.size, 1, none⟩ = some (.int .i64 o.on) ∧ ∀ j, j < ts.length → w'.cell? ⟨g, j * 2, none⟩ = some (.pointer (some ⟨xo j, 0, none⟩)) ∧ w'.cell? ⟨g, j * 2 + 1, none⟩ = some (.pointer (some ⟨ro j, 0, none⟩))) (first | exact hS | exact hS2 _ | go_keep) ((go_at_call 19; refine (HPick.out _).mono ?_; rintro e w' ⟨⟨j, hj, rfl⟩, rfl⟩; have hjI : (j : Int) < (ts.length : Int) := (by omega)))
    all_goals (go_wp2_with fail; go_meet)
    all_goals (obtain ⟨t, ht, e1, e2⟩ := HXR.out j hj; exact ⟨_, j, t, rfl, ht, (HB2.out _ _).drew, old_new w _ _, by rw [← e1, ← e2]; exact new_new w _ _⟩)
  case rest =>
    obtain ⟨b, j, t, rfl, ht, HB, hop, htw⟩ := hcut
    obtain ⟨o0, o1', o2', o3, o4, o5, o6, o7, o8⟩ := opB_cells hop
    have htw' := htw
    clear p1 p2 o1 o2 hop htw
    have n8 : ¬ o.kind = 8 := by omega
    have n9 : ¬ o.kind = 9 := by omega
    obtain ⟨y0, y1⟩ := twB_cells htw'
    by_cases h6 : o.kind = 6
    · have h6b : (o.kind == 6) = true := by simp [h6]
      have H6 : Hid (o.kind = 6 ∨ o.kind = 7) := .inl h6
      clear h6 n8 n9
      go_wp2_with (
        (go_at_call 15; refine (HThr.out _ j t HB.out ht H6.out).mono ?_; rintro e w5 ⟨rfl, haft⟩))
      go_ret
      exact ⟨rfl, haft⟩
    · by_cases h7 : o.kind = 7
      · have h6b : (o.kind == 6) = false := by simp [h6]
        have h7b : (o.kind == 7) = true := by simp [h7]
        have H7 : Hid (o.kind = 6 ∨ o.kind = 7) := .inr h7
        clear h6 h7 n8 n9
        go_wp2_with (
          (go_at_call 15; refine (HThr.out _ j t HB.out ht H7.out).mono ?_; rintro e w5 ⟨rfl, haft⟩))
        go_ret
        exact ⟨rfl, haft⟩
      · have h6b : (o.kind == 6) = false := by simp [h6]
        have h7b : (o.kind == 7) = false := by simp [h7]
        have h8b : (o.kind == 8) = false := by simp [n8]
        have h9b : (o.kind == 9) = false := by simp [n9]
        clear h6 h7 n8 n9
        go_wp2_with (
          (go_at_call 22; refine (HPlain.out _ HB.out).mono ?_; rintro e w5 ⟨rfl, haft⟩))
        go_ret
        exact ⟨rfl, haft⟩
end

section
open Go.RowKit
attribute [local go_sem ↓] Go.wp_at_zero Go.wp_at_succ

def scanOp : OpD := ⟨6, 0, 0, ⟨#[]⟩, ⟨#[]⟩, -1, none, 0, 0, none, 0, 0, none, 0, 0⟩
theorem ops_none (w : World) : OpsAt w (.slice none 0 0) [] := ⟨none, 0, 0, 0, rfl, fun i o h => by simp at h⟩
theorem scanOp_good (w : World) : OpGood w scanOp := ⟨⟨by unfold scanOp; simp, show (0 : Nat) ≤ 9223372036854775807 from Nat.zero_le _⟩, show (0 : Nat) ≤ 9223372036854775807 from Nat.zero_le _, by unfold scanOp; simp, [], [], ops_none w, ops_none w, by simp, by simp, fun o h => by cases h⟩
theorem St.step7 {w wr : World} {W : Nat} {most : Int} {av : Value} {n : Nat} {o : OpD} (h : St w W most av n wr) (hn : 0 < n) (hm : most < 10) (hk : o.kind < 8) (ho : OpGood w o) :
    Calls Tryz.prog 11 #[.pointer (some ⟨W, 0, none⟩), .agg #[.int .i64 o.kind, .int .i64 o.on, .int .i64 o.other, .string o.key, .string o.till, .int .i64 o.n, .slice o.pa o.pl o.pc, .slice o.fa o.fl o.fc, .slice o.ma o.ml o.mc]] wr fun e w' => e = .returned (.bool true) ∧ St w W most av n w' := by
  obtain ⟨ρ, ts, h1, h2, h3, rfl⟩ := h
  exact (step7_any (o := o) h1 h2 h3 hn hm hk ho).mono fun e w' he => ⟨he.1, by have := St.after h1 h2 he.2; rwa [List.length_map] at this⟩
theorem St.at7 {w wr : World} {W : Nat} {most : Int} {g cap n : Nat} (h : St w W most (.slice (some ⟨g, 0, none⟩) n cap) n wr) {i : Nat} (hi : i < n) (hm : most < 10) :
    ∃ x r ao ga cp m, m ≤ 3000 ∧ x < wr.heap.size ∧ r < wr.heap.size ∧ ∀ w1, Below wr.heap.size wr w1 → Fin1 wr W g cap n i x r ao ga cp m w1 ∧ Calls Tryz.prog 15 #[.pointer (some ⟨W, 0, none⟩), .agg #[.pointer (some ⟨x, 0, none⟩), .pointer (some ⟨r, 0, none⟩)], .agg #[.int .i64 6, .int .i64 0, .int .i64 0, .string ⟨#[]⟩, .string ⟨#[]⟩, .int .i64 (-1), .slice none 0 0, .slice none 0 0, .slice none 0 0]] w1 fun e w' => e = .returned (.bool true) ∧ St w W most (.slice (some ⟨g, 0, none⟩) n cap) n w' := by
  obtain ⟨x, r, ao, ga, cp, m, q1, q2, q3, q4⟩ := h.at hi
  obtain ⟨ρ, ts, h1, h2, h3, h4⟩ := h
  obtain ⟨g', cap', e1, hcap, hg, hrow⟩ := h3.at (by omega)
  cases e1
  obtain ⟨t, ht⟩ : ∃ t, ts[i]? = some t := ⟨_, List.getElem?_eq_getElem (by omega)⟩
  obtain ⟨c1, c2⟩ := hrow i t ht
  have f := q4 wr (Below.refl _ _)
  have ex : x = t.1 := by have := f.cx.symm.trans c1; simpa using this
  have er : r = t.2.1 := by have := f.cr.symm.trans c2; simpa using this
  subst ex
  subst er
  refine ⟨t.1, t.2.1, ao, ga, cp, m, q1, q2, q3, fun w1 hb => ⟨q4 w1 hb, ?_⟩⟩
  have := thr_any (o := scanOp) h1 (h2.trans (hb.mono h2.size)) (h3.on hb) (by omega) hm ht (scanOp_good w)
  refine this.mono fun e w' he => ⟨he.1, ?_⟩
  have h5 := St.after h1 (h2.trans (hb.mono h2.size)) he.2
  rw [List.length_map, h4] at h5
  exact h5

set_option maxRecDepth 100000 in
set_option maxHeartbeats 4000000 in
theorem played7_any {w : World} {v : Value} {ops : List OpD} {most : Int} (hm : most = 7) (hv : OpsAt w v ops) (hlen : ops.length ≤ 9223372036854775807) (hops : ∀ o ∈ ops, OpGood w o) :
    Calls Tryz.prog 7 #[v, .int .i64 most] w fun e w' => e = .returned (.bool true) ∧ Below w.heap.size w w' := by
  have HBegun : Hid (Calls Tryz.prog 8 #[.pointer (some ⟨w.heap.size, 0, none⟩), .int .i64 most] (w.alloc (wdB most)) fun e w' => e = .returned (.bool true) ∧ Hid (∃ ρ av t, (∀ k, k < w.heap.size → ρ k = 0) ∧ Below w.heap.size w w' ∧ Wd ρ w' w.heap.size most av [t])) := by
    refine (begun_any (wd_new w most)).mono ?_
    rintro e w' ⟨rfl, ρ', av', t, hm, hW⟩
    obtain ⟨h1, h2⟩ := hm.below (w := w) (fun k hk => if_neg (by omega)) (below_alloc w _)
    exact ⟨rfl, ρ', av', t, h1, h2, hW⟩
  obtain ⟨ao, kb, p, cap0, rfl, hcells⟩ := hv
  have HOps : Hid (∀ w1, Below w.heap.size w w1 → ∀ (i : Nat) o, ops[i]? = some o → ao = some ⟨kb, p, none⟩ ∧ OpCells w1 kb (p + i * 9) o) := fun w1 hb i o ho => ⟨(hcells i o ho).1, (hcells i o ho).2.on (n := 0) hb⟩
  have HF : Hid (∀ o ∈ ops, OpGood w o) := hops
  have HNew : Hid (∀ w1, Calls Tryz.prog 10 #[] w1 fun e w' => e = .returned (.pointer (some ⟨w1.heap.size, 0, none⟩)) ∧ w' = w1.alloc ixB) := fun w1 => new_any w1
  clear hcells hops
  have e1 : ∀ w1 : World, w1.alloc (.cells #[.slice none 0 0] 36) = w1.alloc rfB := fun _ => rfl
  have e2 : ∀ (w1 : World) (x r : Nat), w1.alloc (.cells #[.pointer (some ⟨x, 0, none⟩), .pointer (some ⟨r, 0, none⟩)] 42) = w1.alloc (twB x r) := fun _ _ _ => rfl
  have e3 : ∀ w1 : World, w1.alloc (.cells #[.slice none 0 0, .int .i64 most] 28) = w1.alloc (wdB most) := fun _ => rfl
  have hm8 : most < 8 := by omega
  have hm6 : (6 : Int) ≤ most := by omega
  have hm5 : (5 : Int) ≤ most := by omega
  clear hm
  go_enter Tryz.func7, Tryz.ntmps7
  go_wp2_with (first
    | (go_at_call 8; refine HBegun.out.mono ?_; rintro e w2 ⟨rfl, HW2⟩)
    | (go_at_call 10; refine (HNew.out _).mono ?_; rintro e w1 ⟨rfl, rfl⟩)
    | (go_at_call 9; obtain ⟨ρ2, av2, t2, q1, q2, q3⟩ := HW2.out; refine (begun_two q1 q2 q3).mono ?_; clear q1 q2 q3 HW2; rintro e w3 ⟨rfl, g, cap, hcap, hst⟩; have HST : Hid (St w w.heap.size most (.slice (some ⟨g, 0, none⟩) 2 cap) 2 w3) := hst; clear hst))
  go_loopg [6, 7] ops.length (fun gk s6 s7 wr => ∃ i : Nat, s6 = .bool true ∧ s7 = .int .i64 i ∧ i ≤ ops.length ∧ gk = ops.length - i ∧ Hid (St w w.heap.size most (.slice (some ⟨g, 0, none⟩) 2 cap) 2 wr))
  case atStart => exact ⟨0, rfl, rfl, by omega, rfl, HST.out⟩
  case round =>
    obtain ⟨i, rfl, rfl, hi, rfl, HS⟩ := hrel
    clear HST
    by_cases hlt : i < ops.length
    · obtain ⟨o, ho⟩ : ∃ o, ops[i]? = some o := ⟨_, List.getElem?_eq_getElem hlt⟩
      have hof := HF.out o (List.mem_of_getElem? ho)
      have HOF : Hid (OpGood w o) := hof
      obtain ⟨rfl, hc⟩ := HOps.out _ (by obtain ⟨ρ, ts, _, hb, _, _⟩ := HS.out; exact hb) i o ho
      obtain ⟨c0, c1, c2, c3, c4, c5, c6, c7, c8⟩ := hc
      have hltI : (i : Int) < (ops.length : Int) := by omega
      clear hof ho
      by_cases hk : o.kind ≤ most
      · go_wp2_with (
          (go_at_call 11; refine (HS.out.step7 (o := o) (by omega) (by omega) (by omega) HOF.out).mono ?_; rintro e w5 ⟨rfl, hst⟩; have HS5 : Hid (St w w.heap.size most (.slice (some ⟨g, 0, none⟩) 2 cap) 2 w5) := hst; clear hst))
        go_roundg (ops.length - (i + 1))
        case measure => omega
        case rel => exact ⟨i + 1, rfl, by go_num, by omega, rfl, HS5.out⟩
      · go_wp2_with fail
        go_roundg (ops.length - (i + 1))
        case measure => omega
        case rel => exact ⟨i + 1, rfl, by go_num, by omega, rfl, HS.out⟩
    · have hge : ¬ (i : Int) < (ops.length : Int) := by omega
      go_wp2_with fail
      clear hge hlt
      go_loopg [6, 8, 9, 10] 2 (fun gk s6 s8 s9 s10 wr => ∃ j : Nat, s6 = .bool true ∧ s8 = .int .i64 j ∧ j ≤ 2 ∧ gk = 2 - j ∧ Hid (St w w.heap.size most (.slice (some ⟨g, 0, none⟩) 2 cap) 2 wr))
      case atStart => exact ⟨0, rfl, rfl, by omega, rfl, HS.out⟩
      case round =>
        clear HS
        obtain ⟨j, rfl, rfl, hj, rfl, HS⟩ := hrel
        obtain ⟨wo, hwo⟩ : ∃ x : World, x = wr := ⟨_, rfl⟩
        subst hwo
        by_cases hlt : j < 2
        · obtain ⟨x, r, a2, ga, cp, m, hm3, hxl, hrl, hat7⟩ := HS.out.at7 hlt (by omega)
          have hat := fun w1 hb => (hat7 w1 hb).1
          have HTH : Hid (∀ w1, Below wo.heap.size wo w1 → Calls Tryz.prog 15 #[.pointer (some ⟨w.heap.size, 0, none⟩), .agg #[.pointer (some ⟨x, 0, none⟩), .pointer (some ⟨r, 0, none⟩)], .agg #[.int .i64 6, .int .i64 0, .int .i64 0, .string ⟨#[]⟩, .string ⟨#[]⟩, .int .i64 (-1), .slice none 0 0, .slice none 0 0, .slice none 0 0]] w1 fun e w' => e = .returned (.bool true) ∧ St w w.heap.size most (.slice (some ⟨g, 0, none⟩) 2 cap) 2 w') := fun w1 hb => (hat7 w1 hb).2
          clear hat7
          have HAT : Hid (∀ w1, Below wo.heap.size wo w1 → Fin1 wo w.heap.size g cap 2 j x r a2 ga cp m w1) := hat
          have f1 := (hat wo (Below.refl _ _)).cl
          have f2 := (hat wo (Below.refl _ _)).cx
          have f3 := (hat wo (Below.refl _ _)).cr
          have hltI : (j : Int) < 2 := by omega
          have HB0 : Hid (Below wo.heap.size wo (wo.alloc (twB x r))) := below_alloc wo _
          have HC : Hid (∀ w1, Below (wo.alloc (twB x r)).heap.size (wo.alloc (twB x r)) w1 → w1.cell? ⟨wo.heap.size, 0, none⟩ = some (.pointer (some ⟨x, 0, none⟩)) ∧ w1.cell? ⟨wo.heap.size, 1, none⟩ = some (.pointer (some ⟨r, 0, none⟩)) ∧ w1.cell? ⟨r, 0, none⟩ = some (.slice a2 m cp)) := fun w1 hb => by
            have hbk : w1.heap[wo.heap.size]? = some (twB x r) := (hb.block _ (by simp)).trans (heap_alloc_new wo _)
            exact ⟨(twB_cells hbk).1, (twB_cells hbk).2, (hat w1 (HB0.out.trans (hb.mono HB0.out.size))).cL⟩
          clear hat
          go_wp2_with fail
          clear f1 f2 f3
          go_region_held3 (fun w' => w'.cell? ⟨wo.heap.size, 0, none⟩ = some (.pointer (some ⟨x, 0, none⟩)) ∧ w'.cell? ⟨wo.heap.size, 1, none⟩ = some (.pointer (some ⟨r, 0, none⟩)) ∧ w'.cell? ⟨r, 0, none⟩ = some (.slice a2 m cp)) (first | exact HC.out _ ((Below.refl _ _).drew) | go_keep) ((go_at_call 12; refine ((HAT.out _ HB0.out.drew).len).mono ?_; rintro e w6 ⟨rfl, rfl⟩))
          go_wp2_with fail
          go_loopg [6, 10] m (fun gk s6 s10 w9 => ∃ k : Nat, s6 = .bool true ∧ s10 = .int .i64 k ∧ k ≤ m ∧ gk = m - k ∧ Hid (Below (wo.alloc (twB x r)).heap.size (wo.alloc (twB x r)) w9))
          case atStart => exact ⟨0, by first | rfl | simp, rfl, by omega, rfl, (Below.refl _ _).drew⟩
          case round =>
            obtain ⟨k, rfl, rfl, hk, rfl, HB9⟩ := hrel
            obtain ⟨d0, d1, d2⟩ := HC.out _ HB9.out
            have HB8 : Hid (Below wo.heap.size wo wr) := HB0.out.trans (HB9.out.mono HB0.out.size)
            by_cases hkl : k < m
            · obtain ⟨key, hkey, rfl, hkc⟩ := (HAT.out _ HB8.out).key k hkl
              have HKC : Hid (∀ w2, Below wo.heap.size wo w2 → w2.cell? ⟨ga, k * 2, none⟩ = some (.string key)) := hkc
              have hkI : (k : Int) < (m : Int) := by omega
              have d3 := HKC.out _ HB8.out
              clear hkc
              go_wp2_with fail
              go_region_held3 (fun w' => w'.cell? ⟨wo.heap.size, 0, none⟩ = some (.pointer (some ⟨x, 0, none⟩)) ∧ w'.cell? ⟨wo.heap.size, 1, none⟩ = some (.pointer (some ⟨r, 0, none⟩)) ∧ w'.cell? ⟨r, 0, none⟩ = some (.slice (some ⟨ga, 0, none⟩) m cp) ∧ w'.cell? ⟨ga, k * 2, none⟩ = some (.string key)) (first | exact ⟨d0, d1, d2, d3⟩ | exact ⟨(HC.out _ hb10).1, (HC.out _ hb10).2.1, (HC.out _ hb10).2.2, HKC.out _ (HB0.out.trans (hb10.mono HB0.out.size))⟩ | go_keep) ((go_at_call 13; refine ((HAT.out _ HB8.out.drew).get key hkey).mono ?_; rintro e w10 ⟨rfl, hb10'⟩; have hb10 : Below (wo.alloc (twB x r)).heap.size (wo.alloc (twB x r)) w10 := HB9.out.drew.trans (hb10'.mono HB9.out.size); clear hb10'))
              go_wp2_with fail
              go_roundg (m - (k + 1))
              case measure => omega
              case rel => exact ⟨k + 1, rfl, by go_num, by omega, rfl, hb10⟩
            · have hkI : ¬ (k : Int) < (m : Int) := by omega
              go_wp2_with (first
                | (go_at_call 14; refine ((HAT.out _ HB8.out).shaped).mono ?_; rintro e w10 ⟨rfl, hb10⟩; have HB10 : Hid (Below (wo.alloc (twB x r)).heap.size (wo.alloc (twB x r)) w10) := HB9.out.trans (hb10.mono HB9.out.size); clear hb10; obtain ⟨z0, z1, z2⟩ := HC.out _ HB10.out)
                | (go_at_call 15; refine (HTH.out _ (HB0.out.trans (HB10.out.mono HB0.out.size))).mono ?_; rintro e w11 ⟨rfl, hst⟩; have HS10 : Hid (St w w.heap.size most (.slice (some ⟨g, 0, none⟩) 2 cap) 2 w11) := hst; clear hst))
              go_roundg (2 - (j + 1))
              case measure => omega
              case rel => exact ⟨j + 1, rfl, by go_num, by omega, rfl, HS10.out⟩
        · obtain rfl : j = 2 := by omega
          have f1 : wo.cell? ⟨w.heap.size, 0, none⟩ = some (.slice (some ⟨g, 0, none⟩) 2 cap) := by
            obtain ⟨ρ, ts, _, _, hW, _⟩ := HS.out; exact hW.cellL
          go_wp2_with fail
          go_ret
          obtain ⟨ρ, ts, _, hb, _, _⟩ := HS.out
          exact ⟨rfl, hb⟩
end

end Go.Proofs.YtcgjppacnhmjlaaGreat
