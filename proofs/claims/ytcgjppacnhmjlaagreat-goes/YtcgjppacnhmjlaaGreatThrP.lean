/- through, by Prefix: the walk. -/
import Derived.Test.YtcgjppacnhmjlaaGreatThrB
set_option linter.unusedVariables false
set_option linter.unusedSimpArgs false
namespace Go.Proofs.YtcgjppacnhmjlaaGreat
open Go.RowKit Go.Shelf
attribute [local go_sem ↓] Go.wp_at_zero Go.wp_at_succ
attribute [local go_sem] Oper.semAt_some

theorem three_boxes {w2 w7 : World} {B C D : Obj} (h : ((w2.alloc B).alloc C).alloc D = w7) : Below w2.heap.size w2 w7 ∧ w7.heap[w2.heap.size]? = some B ∧ w7.heap[w2.heap.size + 1]? = some C ∧ w7.heap[w2.heap.size + 1 + 1]? = some D ∧ w7.heap.size = w2.heap.size + 3 := by
  subst h
  have s1 : (w2.alloc B).heap.size = w2.heap.size + 1 := by simp
  have s2 : ((w2.alloc B).alloc C).heap.size = w2.heap.size + 1 + 1 := by simp
  have b2 := below_alloc ((w2.alloc B).alloc C) D
  have e0 := old_new w2 B C
  have e1 := new_new w2 B C
  have e2 := heap_alloc_new ((w2.alloc B).alloc C) D
  rw [s2] at e2
  refine ⟨(((Below.refl _ _).alloc (Nat.le_refl _) _).alloc (by omega) _).alloc (by omega) _, ?_, ?_, e2, by simp⟩
  · exact (b2.block _ (by omega)).trans e0
  · exact (b2.block _ (by omega)).trans e1
section
variable {ρ ρ1 : Nat → Nat} {w w1 w2 w7 : World} {W : Nat} {most : Int} {av : Value} {ps : List (Nat × Nat)} {Bx : List (Nat × Obj)} {Dl : List Nat}
theorem begin_rangeP {b10 b11 tn i x r : Nat} {l R : List KV} {ao : Option Addr} {oA oB : Obj} (h : Tc ρ w W most av ps ((b10, tnB tn) :: Bx) ρ1 w1) (hb : Below w1.heap.size w1 w2) (k11 : w1.heap.size ≤ b11) (k11b : w2.heap[b11]? = some oA) (hrow : RowOk w1 ao R w2) (htw : Twin ρ1 i w1 x r l) (hD : DefOk w Dl w1) (hc : ∀ e ∈ Bx, e.2.isCells = true) (hA : oA.isCells = true) (hB : oB.isCells = true)
    (h7 : ((w2.alloc oB).alloc (tnB 0)).alloc (okB true) = w7) :
    ∃ Bx2 ρ7, Tc ρ w W most av ps Bx2 ρ7 w7 ∧ ρ7 (w2.heap.size + 1) = 200 ∧ ρ7 (w2.heap.size + 1 + 1) = 200 ∧ IndexAt (fun k => ρ7 k = 0) w7 x l ∧ (∀ e ∈ Bx, e ∈ Bx2) ∧ (b10, tnB tn) ∈ Bx2 ∧ (b11, oA) ∈ Bx2 ∧ (w2.heap.size, oB) ∈ Bx2 ∧ (∀ e ∈ Bx2, e.2.isCells = true) ∧ RowIn Bx2 ao R ∧ DefOk w Dl w7 ∧ (∀ D ∈ Dl, D < w7.heap.size) ∧ (∀ e ∈ Bx2, e.1 < w2.heap.size + 1) ∧ w.heap.size < w2.heap.size := by
  obtain ⟨f0, f2, f3, f4, f5⟩ := three_boxes h7
  have hb7 : Below w1.heap.size w1 w7 := hb.trans (f0.mono hb.size)
  have hs := hb.size
  have h11 := idx_lt k11b
  obtain ⟨rl, hrl, hrl2⟩ : ∃ rl : List (Nat × Obj), (∀ e ∈ rl, w1.heap.size ≤ e.1 ∧ e.1 < w2.heap.size ∧ w7.heap[e.1]? = some e.2 ∧ e.2.isCells = true) ∧ RowIn rl ao R := by
    rcases hrow with h0 | ⟨g, ob, g1, g2, g3, g4, g5⟩
    · exact ⟨[], fun e he => (by cases he), .inl h0⟩
    · refine ⟨[(g, ob)], fun e he => ?_, .inr ⟨g, ob, g1, by simp, g5⟩⟩
      obtain rfl := List.mem_singleton.mp he
      exact ⟨g2, idx_lt g3, (f0.block g (idx_lt g3)).trans g3, g4⟩
  have hm := h.mark' hb7 (a := w2.heap.size + 1) (b := w2.heap.size + 1 + 1) (by omega) (by omega) (by omega) (by omega)
  have hk : ∀ e ∈ (b11, oA) :: (w2.heap.size, oB) :: (b10, tnB tn) :: (rl ++ Bx), (e.1 ≠ w2.heap.size + 1 ∧ e.1 ≠ w2.heap.size + 1 + 1 ∧ ρ1 e.1 = 0 ∧ w7.heap[e.1]? = some e.2) ∧ e.2.isCells = true ∧ e.1 < w2.heap.size + 1 := fun e he => by
    simp only [List.mem_cons, List.mem_append] at he
    rcases he with rfl | rfl | rfl | he | he
    · exact ⟨⟨by dsimp only; omega, by dsimp only; omega, h.fresh _ k11, (f0.block _ h11).trans k11b⟩, hA, by dsimp only; omega⟩
    · exact ⟨⟨by dsimp only; omega, by dsimp only; omega, h.fresh _ hs, f2⟩, hB, by dsimp only; omega⟩
    · have := h.st _ List.mem_cons_self
      have hl := idx_lt this.2
      exact ⟨⟨by dsimp only at hl ⊢; omega, by dsimp only at hl ⊢; omega, this.1, (hb7.block _ hl).trans this.2⟩, rfl, by dsimp only at hl ⊢; omega⟩
    · obtain ⟨g1, g2, g3, g4⟩ := hrl e he
      exact ⟨⟨by omega, by omega, h.fresh _ g1, g3⟩, g4, by omega⟩
    · have := h.st e (List.mem_cons_of_mem _ he)
      have hl := idx_lt this.2
      exact ⟨⟨by omega, by omega, this.1, (hb7.block _ hl).trans this.2⟩, hc e he, by omega⟩
  refine ⟨(b11, oA) :: (w2.heap.size, oB) :: (b10, tnB tn) :: (rl ++ Bx), mark2 ρ1 (w2.heap.size + 1) (w2.heap.size + 1 + 1), h.mark hb7 (by omega) (by omega) (by omega) (by omega) (fun e he => (hk e he).1), if_pos (.inl rfl), if_pos (.inr rfl), (htw.moved hm (fun h => h) (fun _ _ h => h)).ix, fun e he => by simp [he], by simp, by simp, by simp, fun e he => (hk e he).2.1, ?_, hD.on hb7, fun D hD2 => Nat.lt_of_lt_of_le (idx_lt (hD.1 D hD2).2) hb7.size, fun e he => (hk e he).2.2, by have := h.mv.size; omega⟩
  rcases hrl2 with h0 | ⟨g, ob, g1, g2, g3⟩
  · exact .inl h0
  · exact .inr ⟨g, ob, g1, by simp [g2], g3⟩
/-- The row, behind a store into the box of an elder value. -/
theorem RowOk.store {wq w3 : World} {ao : Option Addr} {R : List KV} {b : Nat} (h : RowOk wq ao R w3) (hs : w1.heap.size ≤ wq.heap.size) (hb : b < wq.heap.size) (v : Value) : RowOk w1 ao R (w3.setCell ⟨b, 0, none⟩ v) := by
  rcases h with h0 | ⟨g, ob, g1, g2, g3, g4, g5⟩
  · exact .inl h0
  · exact .inr ⟨g, ob, g1, by omega, (Below.heap_setCell _ _ _ _ (by show g ≠ b; omega)).trans g3, g4, g5⟩
end

set_option maxRecDepth 100000 in
set_option maxHeartbeats 8000000 in
theorem thr_prefix {wb w : World} {ρ : Nat → Nat} {W : Nat} {most : Int} {av : Value} {ts : TS} {i : Nat} {t : Nat × Nat × List KV} {o : OpD} {fs ms : List OpD} (H : ThrIn wb w ρ W most av ts i t o fs ms) (hk7 : o.kind = 7) :
    Calls Tryz.prog 15 #[.pointer (some ⟨W, 0, none⟩), .agg #[.pointer (some ⟨t.1, 0, none⟩), .pointer (some ⟨t.2.1, 0, none⟩)], opV o] w fun e w' => e = .returned (.bool true) ∧ After ρ w W most av (ts.map pp) w' := by
  have HH : Hid (ThrIn wb w ρ W most av ts i t o fs ms) := H
  have HT0 : Hid (Tc ρ w W most av (ts.map pp) [] ρ w) := ⟨Moved.of_below H.wd.fresh (Below.refl _ _), ⟨ts, H.wd, rfl⟩, fun e he => by cases he⟩
  obtain ⟨x, r, l0⟩ := t
  clear H
  simp only at hk7 ⊢
  have Hk7 : Hid (o.kind = 7) := hk7
  have hk7b : (o.kind == 7) = true := by simp [hk7]
  have HPs : Hid ((ts.map pp)[i]? = some (x, r)) := by rw [List.getElem?_map, HH.out.ht]; rfl
  clear hk7
  unfold opV
  refine (callsIn_wide (n := 5)).1 ?_
  refine callsIn_of_wp_marks Tryz.func15 rfl trivial ?_ rfl
  refine wpIn_wide.2 ?_
  simp only [Tryz.ntmps15, List.size_toArray, List.length_cons, List.length_nil, Nat.reduceAdd, Nat.reduceSub, Array.replicate_succ, Array.replicate_zero, List.push_toArray, List.append_toArray, List.nil_append, List.cons_append]
  have hfn := func_nil
  go_wp2_with (first
    | (go_at_call 27; refine (scan_any _ _ _ _).mono ?_; rintro e w4 ⟨rfl, _, _, _, _, hb4⟩; have HB3 : Hid _ := boxes3 (W := W) (x := x) (r := r) (o := o) hb4; obtain ⟨o0, o1, o2, o3, o4, o5, o6, o7, o8⟩ := opB_cells HB3.out.2.2.2; obtain ⟨t0, t1⟩ := twB_cells HB3.out.2.2.1)
    | (go_at_call 28; refine (prefix_any _ _ _).mono ?_; rintro e w5 ⟨rfl, d0, d1, hsz5, hb5⟩; have p7 := cell_later hb5 o7))
  have hbw4 : Below w.heap.size w w5 := HB3.out.1.trans (hb5.mono HB3.out.1.size)
  have hs4 := HB3.out.1.size
  obtain ⟨oc0, p0, pc0, pk0⟩ := box_of d0
  obtain ⟨oc1, p1, pc1, pk1⟩ := box_of d1
  obtain ⟨Bx, hBx⟩ : ∃ Bx : List (Nat × Obj), Bx = [(w.heap.size, wpB W), (w.heap.size + 1, twB x r), (w.heap.size + 1 + 1, opB o), (w4.heap.size, oc0), (w4.heap.size + 1, oc1)] := ⟨_, rfl⟩
  have HBx : Hid (((w.heap.size, wpB W) ∈ Bx ∧ (w.heap.size + 1, twB x r) ∈ Bx ∧ (w.heap.size + 1 + 1, opB o) ∈ Bx) ∧ ∀ e ∈ Bx, e.2.isCells = true) := by
    subst hBx
    refine ⟨⟨by simp, by simp, by simp⟩, fun e he => ?_⟩
    simp only [List.mem_cons, List.not_mem_nil, or_false] at he
    rcases he with rfl | rfl | rfl | rfl | rfl
    · rfl
    · rfl
    · rfl
    · exact pc0
    · exact pc1
  have HT4 : Hid (Tc ρ w W most av (ts.map pp) Bx ρ w5) := by
    have h := HT0.out.on hbw4
    refine ⟨h.mv, h.wd, fun e he => ?_⟩
    have hf := HT0.out.fresh
    subst hBx
    simp only [List.mem_cons, List.not_mem_nil, or_false] at he
    rcases he with rfl | rfl | rfl | rfl | rfl
    · exact ⟨hf _ (Nat.le_refl _), (hb5.block _ (idx_lt HB3.out.2.1)).trans HB3.out.2.1⟩
    · exact ⟨hf _ (by simp), (hb5.block _ (idx_lt HB3.out.2.2.1)).trans HB3.out.2.2.1⟩
    · exact ⟨hf _ (by simp; omega), (hb5.block _ (idx_lt HB3.out.2.2.2)).trans HB3.out.2.2.2⟩
    · exact ⟨hf _ hs4, p0⟩
    · exact ⟨hf _ (by simp; omega), p1⟩
  obtain ⟨qb, hqb⟩ : ∃ qb, w4.heap.size = qb := ⟨_, rfl⟩
  have HSeq : Hid (∀ ρ1 w1 (l : List KV), Kp0 ρ1 w1 Bx → IndexAt (fun k => ρ1 k = 0) w1 x l → SeqR (α := Ran (wantOf o l)) Tryz.prog 44 #[.pointer (some ⟨qb, 0, none⟩), .pointer (some ⟨qb + 1, 0, none⟩)] encR (fun ys => ys = (wantOf o l).attach) (fun pre => pre <+: (wantOf o l).attach) 3000 ρ1 w1) := by
    intro ρ1 w1 l hKp hix
    have key : ∀ R : List KV, R = wantOf o l → SeqR (α := Ran R) Tryz.prog 44 #[.pointer (some ⟨qb, 0, none⟩), .pointer (some ⟨qb + 1, 0, none⟩)] encR (fun ys => ys = R.attach) (fun pre => pre <+: R.attach) 3000 ρ1 w1 := by
      intro R hR
      have hR' : R = pfx o.key.data.toList l := hR.trans (if_pos Hk7.out)
      subst hR'
      obtain ⟨n, tp, hx, hT⟩ := hix.tree
      subst hBx
      subst hqb
      refine SeqR.more (prefix_r (n := n) (tp := tp) HH.out.key (pk0 _ (hKp (_, oc0) (by simp)).2) (pk1 _ (hKp (_, oc1) (by simp)).2) (hKp (_, oc1) (by simp)).1 (idx_cell hx) (hT.weaken fun k h1 h2 => ⟨h1, h2⟩)) ?_
      rw [List.length_attach]
      exact Nat.le_trans (List.length_filter_le _ _) hix.few
    exact key _ rfl
  rw [hqb]
  clear d0 d1 hb4 hsz5 hb5 p0 p1 pc0 pc1 pk0 pk1 hBx HB3 o0 o1 o2 o3 o4 o5 o6 o7 o8 t0 t1 hqb hs4 p7
  obtain ⟨b3, b4, b5, e3, e4, e5⟩ : ∃ b3 b4 b5, w.heap.size = b3 ∧ w.heap.size + 1 = b4 ∧ w.heap.size + 1 + 1 = b5 := ⟨_, _, _, rfl, rfl, rfl⟩
  have HE : Hid (w.heap.size = b3) := e3
  rw [e5] at HBx ⊢
  rw [e4] at HBx ⊢
  rw [e3] at HBx ⊢
  clear e3 e4 e5 hbw4
  obtain ⟨fao, fk, fp, fcap, hfv, hfc⟩ := HH.out.fsA
  obtain ⟨mao, mk, mp, mcap, hmv, hmc⟩ := HH.out.msA
  simp only [Value.slice.injEq] at hfv hmv
  have HFC : Hid (∀ (j : Nat) o', fs[j]? = some o' → fao = some ⟨fk, fp, none⟩ ∧ OpCells wb fk (fp + j * 9) o') := hfc
  have HMC : Hid (∀ (j : Nat) o', ms[j]? = some o' → mao = some ⟨mk, mp, none⟩ ∧ OpCells wb mk (mp + j * 9) o') := hmc
  have hfl := HH.out.fl
  have hml := HH.out.ml
  have HBel : Hid (∀ ρ1 w1, Tc ρ w W most av (ts.map pp) Bx ρ1 w1 → Below wb.heap.size wb w1) := fun ρ1 w1 h => (h.mv.below HH.out.hz HH.out.hb).2
  have HO : Hid (∀ ρ1 w1, Tc ρ w W most av (ts.map pp) Bx ρ1 w1 → w1.heap[b3]? = some (wpB W) ∧ w1.heap[b4]? = some (twB x r) ∧ w1.cell? ⟨b3, 0, none⟩ = some (.pointer (some ⟨W, 0, none⟩)) ∧ w1.cell? ⟨b5, 0, none⟩ = some (.int .i64 o.kind) ∧ w1.cell? ⟨b5, 3, none⟩ = some (.string o.key) ∧ w1.cell? ⟨b5, 4, none⟩ = some (.string o.till) ∧ w1.cell? ⟨b5, 5, none⟩ = some (.int .i64 o.n) ∧ w1.cell? ⟨b5, 7, none⟩ = some (.slice fao fs.length fcap) ∧ w1.cell? ⟨b5, 8, none⟩ = some (.slice mao ms.length mcap)) := fun ρ1 w1 h => by
    have k3 := (h.st _ HBx.out.1.1).2
    obtain ⟨o0, o1, o2, o3, o4, o5, o6, o7, o8⟩ := opB_cells (h.st _ HBx.out.1.2.2).2
    rw [hfv.1, hfv.2.1, hfv.2.2] at o7
    rw [hmv.1, hmv.2.1, hmv.2.2] at o8
    exact ⟨k3, (h.st _ HBx.out.1.2.1).2, by simp [World.cell?, k3, wpB], o0, o3, o4, o5, o7, o8⟩
  have HPl : Hid (∀ o' ∈ fs ++ ms, ∀ Bx ρ1 w1, Tc ρ w W most av (ts.map pp) Bx ρ1 w1 → Calls Tryz.prog 22 #[.pointer (some ⟨W, 0, none⟩), .agg #[.int .i64 o'.kind, .int .i64 o'.on, .int .i64 o'.other, .string o'.key, .string o'.till, .int .i64 o'.n, .slice o'.pa o'.pl o'.pc, .slice o'.fa o'.fl o'.fc, .slice o'.ma o'.ml o'.mc]] w1 fun e w' => e = .returned (.bool true) ∧ ∃ ρ2, Tc ρ w W most av (ts.map pp) Bx ρ2 w' ∧ Moved NZ ρ1 w1 ρ2 w') := fun o' ho' Bx ρ1 w1 h => by
    obtain ⟨ts1, h1, h2⟩ := h.wd
    exact (HH.out.plain o' ho' ρ1 w1 ts1 h2 h1).mono fun e w' he => ⟨he.1, h.plain he.2⟩
  clear hfc hmc hfv hmv HT0
  go_loopg [8] fs.length (fun gk s8 w1 => ∃ j : Nat, j ≤ fs.length ∧ gk + j = fs.length ∧ s8 = .int .i64 j ∧ Hid (∃ ρ1, Tc ρ w W most av (ts.map pp) Bx ρ1 w1))
  case atStart => exact ⟨0, Nat.zero_le _, by omega, rfl, ρ, HT4.out⟩
  case round =>
    clear HT4
    obtain ⟨j, hj, hg, rfl, HT⟩ := hrel
    obtain ⟨ρ1, hT⟩ := HT.out
    have HT1 : Hid (Tc ρ w W most av (ts.map pp) Bx ρ1 wr) := hT
    clear hT HT
    obtain ⟨_, _, c3, c0, ck, cti, cn, cf, cm⟩ := HO.out _ _ HT1.out
    by_cases hlt : j < fs.length
    · obtain ⟨o', ho'⟩ : ∃ o', fs[j]? = some o' := ⟨_, List.getElem?_eq_getElem hlt⟩
      obtain ⟨hfa, hcs⟩ := HFC.out j o' ho'
      have HPo := HPl.out o' (List.mem_append.mpr (.inl (List.mem_of_getElem? ho')))
      have HP : Hid (Calls Tryz.prog 22 #[.pointer (some ⟨W, 0, none⟩), .agg #[.int .i64 o'.kind, .int .i64 o'.on, .int .i64 o'.other, .string o'.key, .string o'.till, .int .i64 o'.n, .slice o'.pa o'.pl o'.pc, .slice o'.fa o'.fl o'.fc, .slice o'.ma o'.ml o'.mc]] wr.drew fun e w' => e = .returned (.bool true) ∧ ∃ ρ2, Tc ρ w W most av (ts.map pp) Bx ρ2 w' ∧ Moved NZ ρ1 wr.drew ρ2 w') := HPo Bx ρ1 _ (HT1.out.on (Below.refl _ _).drew)
      have HC : Hid (∀ ρ1 w1, Tc ρ w W most av (ts.map pp) Bx ρ1 w1 → OpCells w1 fk (fp + j * 9) o') := fun ρ1 w1 h => hcs.on (n := 0) (HBel.out _ _ h)
      obtain ⟨q0, q1, q2, q3, q4, q5, q6, q7, q8⟩ := HC.out _ _ HT1.out
      have hjI : (j : Int) < (fs.length : Int) := by omega
      subst hfa
      clear hcs HPo ho'
      go_wp2_with fail
      go_region_held3 (fun w' => w'.cell? ⟨b3, 0, none⟩ = some (.pointer (some ⟨W, 0, none⟩)) ∧ w'.cell? ⟨b5, 7, none⟩ = some (.slice (some ⟨fk, fp, none⟩) fs.length fcap) ∧ w'.cell? ⟨fk, fp + j * 9, none⟩ = some (.int .i64 o'.kind) ∧ w'.cell? ⟨fk, fp + j * 9 + 1, none⟩ = some (.int .i64 o'.on) ∧ w'.cell? ⟨fk, fp + j * 9 + 2, none⟩ = some (.int .i64 o'.other) ∧ w'.cell? ⟨fk, fp + j * 9 + 3, none⟩ = some (.string o'.key) ∧ w'.cell? ⟨fk, fp + j * 9 + 4, none⟩ = some (.string o'.till) ∧ w'.cell? ⟨fk, fp + j * 9 + 5, none⟩ = some (.int .i64 o'.n) ∧ w'.cell? ⟨fk, fp + j * 9 + 6, none⟩ = some (.slice o'.pa o'.pl o'.pc) ∧ w'.cell? ⟨fk, fp + j * 9 + 7, none⟩ = some (.slice o'.fa o'.fl o'.fc) ∧ w'.cell? ⟨fk, fp + j * 9 + 8, none⟩ = some (.slice o'.ma o'.ml o'.mc))
        (first | exact ⟨c3, cf, q0, q1, q2, q3, q4, q5, q6, q7, q8⟩ | exact ⟨(HO.out _ _ HT2.out).2.2.1, (HO.out _ _ HT2.out).2.2.2.2.2.2.2.1, HC.out _ _ HT2.out⟩ | go_keep)
        ((go_at_call 22; refine HP.out.mono ?_; rintro e w' ⟨rfl, ρ2, hT2, _⟩; have HT2 : Hid (Tc ρ w W most av (ts.map pp) Bx ρ2 w') := hT2; clear hT2))
      go_wp2_with fail
      go_roundg (gk - 1)
      case measure => omega
      case rel => exact ⟨j + 1, by omega, by omega, by go_num, ρ2, HT2.out⟩
    · have hjI : ¬ (j : Int) < (fs.length : Int) := by omega
      clear hlt hg hj
      go_wp2_with fail
      refine wp_loop_ghost_k (fun k a' w' => ∃ (Dl : List Nat) (b10 tn : Nat), ((tn ≤ 2 ∧ k + tn = 2) ∧ Hid ((∃ ρ1, Tc ρ w W most av (ts.map pp) ((b10, tnB tn) :: Bx) ρ1 w') ∧ DefOk w Dl w')) ∧ Frm b3 b4 b5 b10 (.func (.func 44) #[] #[.pointer (some ⟨qb, 0, none⟩), .pointer (some ⟨qb + 1, 0, none⟩)]) Dl a') 2 ?atStart ?round
      case atStart => exact ⟨[], wr.heap.size, 0, ⟨⟨by omega, rfl⟩, ⟨ρ1, HT1.out.add (below_alloc _ _) (Nat.le_refl _) (heap_alloc_new _ _)⟩, ⟨fun D hD => (by cases hD), List.nodup_nil⟩⟩, Frm.of _ rfl rfl⟩
      case round =>
        intro gk a' wr' hI J K hJ hK
        obtain ⟨Dl, b10, tn, ⟨⟨htn, hgk⟩, HT⟩, f, hfr, hdf⟩ := hI
        obtain ⟨tmps, dfs⟩ := a'
        simp only at hfr hdf
        subst hfr
        subst hdf
        unfold build
        clear HT1 c3 c0 ck cti cn cf cm
        obtain ⟨ρ1, hT⟩ := HT.out.1
        have HT1 : Hid (Tc ρ w W most av (ts.map pp) ((b10, tnB tn) :: Bx) ρ1 wr') := hT
        have HDl : Hid (DefOk w Dl wr') := HT.out.2
        clear hT HT
        have HTx : Hid (∀ ρ1 w1, Tc ρ w W most av (ts.map pp) ((b10, tnB tn) :: Bx) ρ1 w1 → Tc ρ w W most av (ts.map pp) Bx ρ1 w1 ∧ w1.cell? ⟨b10, 0, none⟩ = some (.int .i64 tn)) := fun ρ1 w1 h => ⟨⟨h.mv, h.wd, fun e he => h.st e (List.mem_cons_of_mem _ he)⟩, by have := (h.st _ List.mem_cons_self).2; simp [World.cell?, this, tnB]⟩
        have ctn := (HTx.out _ _ HT1.out).2
        obtain ⟨_, k4, c3, c0, ck, cti, cn, cf, cm⟩ := HO.out _ _ (HTx.out _ _ HT1.out).1
        obtain ⟨ct0, ct1⟩ := twB_cells k4
        by_cases hlt : tn < 2
        · have htI : (tn : Int) < 2 := by omega
          obtain ⟨l, htw⟩ := HT1.out.twin HPs.out
          obtain ⟨rv, hR, _⟩ := htw.ref
          have HTw : Hid (Twin ρ1 i wr' x r l) := htw
          have HRs : Hid (Calls Tryz.prog 29 #[.pointer (some ⟨r, 0, none⟩), .string o.key, .string o.till] wr' fun e w' => ∃ ao n cap, e = .returned (.slice ao n cap) ∧ Below wr'.heap.size wr' w') := by
            refine (rscan_any hR o.key o.till HH.out.key HH.out.till).mono ?_
            rintro e w' ⟨v, rfl, ho⟩
            obtain ⟨ao, cap, rfl, h1⟩ := outs_open ho
            exact ⟨ao, _, cap, rfl, ho.2⟩
          have HRp : Hid (∀ w1, Below wr'.heap.size wr' w1 → Calls Tryz.prog 30 #[.pointer (some ⟨r, 0, none⟩), .string o.key] w1 fun e w' => ∃ ao cap, e = .returned (.slice ao (wantOf o l).length cap) ∧ Below w1.heap.size w1 w' ∧ Hid (RowOk w1 ao (wantOf o l) w')) := fun w1 hb => by
            refine (rprefix_any (hR.on hb) o.key HH.out.key).mono ?_
            rintro e w' ⟨v, rfl, ho⟩
            rw [show pfx o.key.data.toList l = wantOf o l from (if_pos Hk7.out).symm] at ho
            obtain ⟨ao, cap, rfl, h1⟩ := outs_open ho
            exact ⟨ao, cap, rfl, ho.2, h1⟩
          have hR3 : (wantOf o l).length ≤ 3000 := by
            have h1 := hR.few
            have h2 : wantOf o l = pfx o.key.data.toList l := if_pos Hk7.out
            have h3 : (pfx o.key.data.toList l).length ≤ l.length := List.length_filter_le _ _
            rw [h2]; omega
          have hb5w : b5 < wr'.heap.size := World.block_lt_of_cell? _ _ cn
          clear hR htw k4
          obtain ⟨rn, hrn⟩ : ∃ rn, (wantOf o l).length = rn := ⟨_, rfl⟩
          have HRd : Hid ((wantOf o l).length = rn) := hrn
          rw [hrn] at HRp hR3
          clear hrn
          obtain ⟨nn, hnn, hN⟩ : ∃ nn : Nat, nn ≤ rn ∧ ((¬ 0 ≤ o.n ∧ nn = rn) ∨ (0 ≤ o.n ∧ o.n < rn ∧ (nn : Int) = o.n) ∨ (0 ≤ o.n ∧ ¬ o.n < rn ∧ nn = rn)) := by
            by_cases h1 : 0 ≤ o.n
            · by_cases h2 : o.n < rn
              · exact ⟨o.n.toNat, by omega, .inr (.inl ⟨h1, h2, by omega⟩)⟩
              · exact ⟨rn, Nat.le_refl _, .inr (.inr ⟨h1, h2, rfl⟩)⟩
            · exact ⟨rn, Nat.le_refl _, .inl ⟨h1, rfl⟩⟩
          have HNn : Hid ((nn = rn ∨ 0 ≤ o.n) ∧ nn ≤ rn) := ⟨by omega, hnn⟩
          rcases hN with ⟨hN1, hN3⟩ | ⟨hN1, hN2, hN3⟩ | ⟨hN1, hN2, hN3⟩
          · have HN3 : Hid ((rn : Int) = nn) := by show (rn : Int) = nn; omega
            clear hN3
            go_wp2_with (first
              | (go_at_call 29; refine HRs.out.mono ?_; rintro e w2 ⟨ao0, rn0, cap0, rfl, hb2⟩; have hbq := fun ob => hb2.trans ((below_alloc w2 ob).mono hb2.size); have c0' := fun ob => cell_later (hbq ob) c0; have ct1' := fun ob => cell_later (hbq ob) ct1; have ck' := fun ob => cell_later (hbq ob) ck)
              | (go_at_call 30; refine (HRp.out _ (hbq _)).mono ?_; rintro e w3 ⟨ao, cap, rfl, hb3, HRow⟩; have hz3 : w3.heap[w2.heap.size]? = some (.cells #[.slice ao0 rn0 cap0] 34 (0, 0)) := (hb3.block _ (by simp)).trans (heap_alloc_new w2 _); have x1 : w3.cell? ⟨w2.heap.size, 0, none⟩ = some (.slice ao0 rn0 cap0) := (by simp [World.cell?, hz3]); have x2 : w3.frozen? ⟨w2.heap.size, 0, none⟩ = false := (by simp [World.frozen?, hz3]); have x3 : ∀ v ob, ((w3.setCell ⟨w2.heap.size, 0, none⟩ v).alloc ob).cell? ⟨b5, 5, none⟩ = some (.int .i64 o.n) := fun v ob => cell_later (below_alloc _ ob) ((World.cell?_of_block (w := w3) (a := ⟨b5, 5, none⟩) (Below.heap_setCell _ _ _ _ (by show b5 ≠ w2.heap.size; have := hb2.size; omega))).trans (cell_later hb3 (cell_later (hbq _) cn)))))
            clear c0' ct1' ck' x1 x2 x3
            generalize hni : (rn : Int) = ni
            have hni2 : ni = (nn : Int) := by rw [← hni]; exact HN3.out
            subst hni2
            clear hni HN3
            obtain ⟨w3s, hw3s⟩ : ∃ w3s, w3.setCell ⟨w2.heap.size, 0, none⟩ (.slice ao rn cap) = w3s := ⟨_, rfl⟩
            rw [hw3s]
            have hs3 : w3s.heap.size = w3.heap.size := by rw [← hw3s]; simp [World.setCell]
            have hb3s : Below wr'.heap.size wr' w3s := by
              have h1 := (hbq (.cells #[.slice ao0 rn0 cap0] 34)).trans (hb3.mono (hbq _).size)
              rw [← hw3s]
              exact h1.setCell (p := ⟨w2.heap.size, 0, none⟩) hb2.size _
            have k11 : w3s.heap[w2.heap.size]? = some (.cells #[.slice ao rn cap] 34 (0, 0)) := by
              rw [← hw3s]
              have := Lib.heap_setCell_same (i := 0) hz3 (.slice ao rn cap)
              rw [this]; rfl
            have hrow3 : RowOk wr' ao (wantOf o l) w3s := by rw [← hw3s]; exact HRow.out.store (by have := hb2.size; simp; omega) (by simp) _
            obtain ⟨w7, hw7⟩ : ∃ w7, ((w3s.alloc (.cells #[.int .i64 nn] 3)).alloc (.cells #[.int .i64 0] 3)).alloc (.cells #[.bool true] 4) = w7 := ⟨_, rfl⟩
            rw [hw7]
            obtain ⟨Bx2, ρ7, hTc, h13, h14, hix, hsub, i10, i11, i12, hcel, hrow, hdf, hDlt, hlt2, hlo2⟩ := begin_rangeP (b11 := w2.heap.size) (oA := .cells #[.slice ao rn cap] 34) (oB := tnB nn) HT1.out hb3s hb2.size k11 hrow3 HTw.out HDl.out HBx.out.2 rfl rfl hw7
            have a13 := (three_boxes hw7).2.2.1
            have a14 := (three_boxes hw7).2.2.2.1
            have hs7 := (three_boxes hw7).2.2.2.2
            have hk11 := idx_lt k11
            obtain ⟨b11, b12, b13, b14, e11, e12, e13, e14⟩ : ∃ b11 b12 b13 b14, w2.heap.size = b11 ∧ w3.heap.size = b12 ∧ w3.heap.size + 1 = b13 ∧ w3.heap.size + 1 + 1 = b14 := ⟨_, _, _, _, rfl, rfl, rfl, rfl⟩
            rw [hs3] at h13 h14 a13 a14 i12 hs7 hlt2 hlo2 hk11
            obtain ⟨β, hβ⟩ : ∃ β, b12 = β + 1 := ⟨b12 - 1, by omega⟩
            have HSz : Hid (b12 = β + 1 ∧ b13 = β + 2 ∧ b14 = β + 3 ∧ w7.heap.size = β + 4 ∧ w.heap.size ≤ β ∧ ∀ e ∈ Bx2, e.1 < β + 2) := ⟨by omega, by omega, by omega, by omega, by omega, fun e he => by have := hlt2 e he; omega⟩
            have hβ2 : b11 ≤ β := by omega
            rw [e14] at h14 a14 ⊢
            rw [e13] at h13 a13 ⊢
            rw [e12] at i12 ⊢
            rw [e11] at i11 ⊢
            have HR0 : Hid (RS ρ w W most av (ts.map pp) Bx2 Dl b13 b14 ρ7 w7 0 true) := ⟨hTc, h13, h14, hdf, a13, a14⟩
            have HSq := HSeq.out ρ7 w7 l (hTc.sub hsub).st hix
            have HIn : Hid (((b10, tnB tn) ∈ Bx2 ∧ (b11, .cells #[.slice ao rn cap] 34) ∈ Bx2 ∧ (b12, tnB nn) ∈ Bx2) ∧ (∀ e ∈ Bx, e ∈ Bx2) ∧ (∀ e ∈ Bx2, e.2.isCells = true) ∧ RowIn Bx2 ao (wantOf o l) ∧ ∀ D ∈ Dl, D < w7.heap.size) := ⟨⟨i10, i11, i12⟩, hsub, hcel, hrow, hDlt⟩
            have hfresh : ∀ k, k < w7.heap.size → ρ7 k = ρ7 k := fun _ _ => rfl
            clear hw3s hs3 hb3s k11 hrow3 hk11 hz3 hb3 hbq hβ hw7 e11 e12 e13 e14 hTc h13 h14 hix hsub i10 i11 i12 hcel hrow hdf hDlt hlt2 hlo2 a13 a14 hs7 HRs HRp HRow hb2 HTw HT1
            generalize hR : wantOf o l = R at *
            have HRR : Hid (R.length = rn) := HRd.out
            clear hR HRd
            generalize hact : ({ tmps := _, defers := _ } : Act) = a0
            refine (wpIn_wide (n := 5)).1 ?_
            refine range_lab (by rw [← hact]; rfl) (enters_of Tryz.func44 (by kernel_rfl) rfl) HSq (Below.refl _ _) hfresh (fun _ => rfl)
              (RGo ρ w W most av (ts.map pp) Bx2 Dl b13 b14 nn R)
              (RLv ρ w W most av (ts.map pp) Bx2 Dl b13 b14 nn R)
              ?own ?ownx ?fr ?start
              (fun x => { tmps := (((a0.tmps.setIfInBounds 83 (.string ⟨x.1.1.toArray⟩)).setIfInBounds 84 (.int .i64 x.1.2)).setIfInBounds 15 (.string ⟨x.1.1.toArray⟩)).setIfInBounds 16 (.int .i64 x.1.2), defers := [] }) ?assign ?body ?done ?stop
            case own =>
              rintro ρ2 pre A B row ⟨at', ok, h1, h2, h3⟩ hg hr
              exact ⟨at', ok, h1.turn hg hr (by have := HSz.out; omega) HIn.out.2.2.1 HIn.out.2.2.2.2, h2, h3⟩
            case ownx =>
              rintro c ρ2 pre A B row ⟨hc, ok, h1, h2⟩ hg hr
              exact ⟨hc, ok, h1.turn hg hr (by have := HSz.out; omega) HIn.out.2.2.1 HIn.out.2.2.2.2, h2⟩
            case fr =>
              rintro ρ2 pre A ⟨at', ok, h1, _⟩
              exact h1.tc.fresh
            case start => exact ⟨0, true, HR0.out, Nat.zero_le _, fun _ => ⟨rfl, rfl⟩⟩
            case assign =>
              intro m' l' x A K2 hK2
              rw [← hact] at hK2 ⊢
              simp [encR] at hK2 ⊢
              gi_wp2
              exact hK2
            case body =>
              intro m' l' ρ2 pre x A hI hlen
              rw [← hact]
              obtain ⟨at', ok, hRS, hat, hpre⟩ := hI
              obtain ⟨kk, hkk⟩ : ∃ kk : ByteArray, (⟨x.1.1.toArray⟩ : ByteArray) = kk := ⟨_, rfl⟩
              obtain ⟨vv, hvv⟩ : ∃ vv, x.1.2 = vv := ⟨_, rfl⟩
              obtain ⟨c13, f13⟩ := hRS.c13
              obtain ⟨c14, f14⟩ := hRS.c14
              obtain ⟨_, _, c3, c0, ck, cti, cn, cf, cm⟩ := HO.out _ _ (hRS.tc.sub HIn.out.2.1)
              have c10 : A.cell? ⟨b10, 0, none⟩ = some (.int .i64 tn) := by have := (hRS.tc.st _ HIn.out.1.1).2; simp [World.cell?, this, tnB]
              have c11 : A.cell? ⟨b11, 0, none⟩ = some (.slice ao rn cap) := by have := (hRS.tc.st _ HIn.out.1.2.1).2; simp [World.cell?, this]
              have c12 : A.cell? ⟨b12, 0, none⟩ = some (.int .i64 nn) := by have := (hRS.tc.st _ HIn.out.1.2.2).2; simp [World.cell?, this, tnB]
              have hb10 : b10 < β + 2 := HSz.out.2.2.2.2.2 _ HIn.out.1.1
              have hb5 : b5 < β + 2 := HSz.out.2.2.2.2.2 _ (HIn.out.2.1 _ HBx.out.1.2.2)
              have hb3' : b3 < β + 2 := HSz.out.2.2.2.2.2 _ (HIn.out.2.1 _ HBx.out.1.1)
              obtain ⟨s12, s13, s14, s7, slo, _⟩ := HSz.out
              have hne : b13 ≠ b14 ∧ b14 ≠ b13 ∧ b10 ≠ b14 ∧ b11 ≠ b14 ∧ b12 ≠ b14 ∧ b5 ≠ b14 ∧ b3 ≠ b14 := by omega
              have hlo : w.heap.size ≤ b13 ∧ w.heap.size ≤ b14 := by omega
              have HRS : Hid (RS ρ w W most av (ts.map pp) Bx2 Dl b13 b14 ρ2 A at' ok) := hRS
              have hNn := HNn.out
              have hRR := HRR.out
              clear s12 s13 s14 s7 slo hb10 hb5 hb3' hRS
              simp only [hkk, hvv]
              by_cases hge : nn ≤ at'
              · have e1 : at' = nn := by omega
                have HLv : Hid (∀ b : Bool, (pre ++ [x] <+: R.attach → b = true) → KeepsOthers A (A.setCell ⟨b14, 0, none⟩ (.bool b)) ∧ ∃ ρ', RLv ρ w W most av (ts.map pp) Bx2 Dl b13 b14 nn R (.exit 4) ρ' (pre ++ [x]) (A.setCell ⟨b14, 0, none⟩ (.bool b))) := fun b hb => by
                  obtain ⟨h1, h2, h3⟩ := HRS.out.setOk hne.1 hlo.2 b
                  rw [e1] at h1
                  exact ⟨h3, ρ2, rfl, b, h1, hb⟩
                have HPr : Hid (pre ++ [x] <+: R.attach → ok = true ∧ at' < rn) := fun hg => by
                  have h1 := hpre ((List.prefix_append _ _).trans hg)
                  have h2 := hg.length_le
                  rw [List.length_append, List.length_attach, hRR] at h2
                  simp at h2
                  exact ⟨h1.1, by omega⟩
                have hgeI : (nn : Int) ≤ (at' : Int) := by omega
                clear hpre hat hlen
                cases ok with
                | false =>
                  gi_wp2
                  all_goals exact HLv.out false (fun hg => by have := (HPr.out hg).1; cases this)
                | true =>
                  by_cases h1 : (at' : Int) < (rn : Int)
                  · by_cases h2 : (0 : Int) ≤ o.n
                    · gi_wp2
                      all_goals exact HLv.out true (fun _ => rfl)
                    · gi_wp2
                      all_goals exact HLv.out false (fun hg => by omega)
                  · gi_wp2
                    all_goals exact HLv.out false (fun hg => by have := (HPr.out hg).2; omega)
              · have hlt' : at' < nn := by omega
                obtain ⟨e, he⟩ : ∃ e, R[at']? = some e := ⟨_, List.getElem?_eq_getElem (by omega)⟩
                obtain ⟨g, ob, hao, hgin, hgp⟩ : ∃ g ob, ao = some ⟨g, 0, none⟩ ∧ (g, ob) ∈ Bx2 ∧ ∀ w' : World, w'.heap[g]? = some ob → PairsAt w' g R := by
                  rcases HIn.out.2.2.2.1 with h0 | h
                  · rw [h0] at hRR; simp at hRR; omega
                  · exact h
                obtain ⟨cg0, cg1⟩ := hgp A (HRS.out.tc.st _ hgin).2 at' e he
                have hgne : g ≠ b14 ∧ g ≠ b13 := by have := HSz.out.2.2.2.2.2 _ hgin; have := HSz.out; omega
                have HPr : Hid (pre ++ [x] <+: R.attach → ok = true ∧ (kk.toList == (keyOf e).toList) = true ∧ vv = e.2 ∧ at' = pre.length) := fun hg => by
                  have h1 := hpre ((List.prefix_append _ _).trans hg)
                  obtain ⟨z, hz⟩ := hg
                  have h2 : R.attach[pre.length]? = some x := by rw [← hz]; simp
                  have h3 : R[pre.length]? = some x.1 := by
                    have := congrArg (Option.map (·.1)) h2
                    rw [← List.getElem?_map, List.attach_map_subtype_val] at this
                    exact this
                  rw [← h1.2, he] at h3
                  cases h3
                  refine ⟨h1.1, ?_, hvv.symm, h1.2⟩
                  rw [← hkk]
                  exact beq_self_eq_true _
                have HGo : Hid (∀ ok1 : Bool, (pre ++ [x] <+: R.attach → ok1 = true) → KeepsOthers A ((A.setCell ⟨b14, 0, none⟩ (.bool ok1)).setCell ⟨b13, 0, none⟩ (.int .i64 ((at' : Int) + 1))) ∧ ∃ ρ', Lab ρ2 A ρ' ((A.setCell ⟨b14, 0, none⟩ (.bool ok1)).setCell ⟨b13, 0, none⟩ (.int .i64 ((at' : Int) + 1))) ∧ RGo ρ w W most av (ts.map pp) Bx2 Dl b13 b14 nn R ρ' (pre ++ [x]) ((A.setCell ⟨b14, 0, none⟩ (.bool ok1)).setCell ⟨b13, 0, none⟩ (.int .i64 ((at' : Int) + 1)))) := fun ok1 hok => by
                  obtain ⟨h1, h2, h3⟩ := HRS.out.setOk hne.1 hlo.2 ok1
                  obtain ⟨h4, h5, h6⟩ := h1.setAt hne.1 hlo.1 (at' + 1)
                  rw [show ((at' + 1 : Nat) : Int) = (at' : Int) + 1 by omega] at h4 h5 h6
                  exact ⟨h3.trans h6, ρ2, h2.trans h5, at' + 1, ok1, h4, by omega, fun hg => ⟨hok hg, by rw [(HPr.out hg).2.2.2]; simp⟩⟩
                have HR1 : Hid (RS ρ w W most av (ts.map pp) Bx2 Dl b13 b14 ρ2 (A.setCell ⟨b14, 0, none⟩ (.bool true)) at' true ∧ Lab ρ2 A ρ2 (A.setCell ⟨b14, 0, none⟩ (.bool true)) ∧ KeepsOthers A (A.setCell ⟨b14, 0, none⟩ (.bool true))) := HRS.out.setOk hne.1 hlo.2 true
                have hgeI : ¬ (nn : Int) ≤ (at' : Int) := by omega
                have hatI : (0 : Int) ≤ (at' : Int) ∧ (at' : Int) < 3000 := by omega
                have hrnI : (at' : Int) < (rn : Int) := by omega
                subst hao
                have hat3 : at' < 3000 := by omega
                clear hpre he hgp hgin hlen hge hRR hNn hvv hkk
                cases ok with
                | false =>
                  by_cases hm : (at' : Int) < (ms.length : Int)
                  · gi_wp2
                    all_goals exact HGo.out false (fun hg => by have := (HPr.out hg).1; cases this)
                  · gi_wp2
                    all_goals exact HGo.out false (fun hg => by have := (HPr.out hg).1; cases this)
                | true =>
                  cases hq : (kk.toList == (keyOf e).toList) with
                  | false =>
                    by_cases hm : (at' : Int) < (ms.length : Int)
                    · gi_wp2
                      all_goals exact HGo.out false (fun hg => by have := (HPr.out hg).2.1; rw [hq] at this; cases this)
                    · gi_wp2
                      all_goals exact HGo.out false (fun hg => by have := (HPr.out hg).2.1; rw [hq] at this; cases this)
                  | true =>
                    by_cases hv : vv = e.2
                    · by_cases hm : (at' : Int) < (ms.length : Int)
                      · by_cases ht0 : tn = 0
                        · subst ht0
                          obtain ⟨o', ho'⟩ : ∃ o', ms[at']? = some o' := ⟨_, List.getElem?_eq_getElem (by omega)⟩
                          obtain ⟨hma, hcs⟩ := HMC.out at' o' ho'
                          have HGo2 : Hid (∀ ρ3 B, RS ρ w W most av (ts.map pp) Bx2 Dl b13 b14 ρ3 B at' true → Lab ρ2 A ρ3 B → KeepsOthers A B → KeepsOthers A ((B.setCell ⟨b14, 0, none⟩ (.bool true)).setCell ⟨b13, 0, none⟩ (.int .i64 ((at' : Int) + 1))) ∧ ∃ ρ', Lab ρ2 A ρ' ((B.setCell ⟨b14, 0, none⟩ (.bool true)).setCell ⟨b13, 0, none⟩ (.int .i64 ((at' : Int) + 1))) ∧ RGo ρ w W most av (ts.map pp) Bx2 Dl b13 b14 nn R ρ' (pre ++ [x]) ((B.setCell ⟨b14, 0, none⟩ (.bool true)).setCell ⟨b13, 0, none⟩ (.int .i64 ((at' : Int) + 1)))) := fun ρ3 B hB hL hK => by
                            obtain ⟨h1, h2, h3⟩ := hB.setOk hne.1 hlo.2 true
                            obtain ⟨h4, h5, h6⟩ := h1.setAt hne.1 hlo.1 (at' + 1)
                            rw [show ((at' + 1 : Nat) : Int) = (at' : Int) + 1 by omega] at h4 h5 h6
                            exact ⟨(hK.trans h3).trans h6, ρ3, (hL.trans h2).trans h5, at' + 1, true, h4, by omega, fun hg => ⟨rfl, by rw [(HPr.out hg).2.2.2]; simp⟩⟩
                          have HP : Hid (Calls Tryz.prog 22 #[.pointer (some ⟨W, 0, none⟩), .agg #[.int .i64 o'.kind, .int .i64 o'.on, .int .i64 o'.other, .string o'.key, .string o'.till, .int .i64 o'.n, .slice o'.pa o'.pl o'.pc, .slice o'.fa o'.fl o'.fc, .slice o'.ma o'.ml o'.mc]] (A.setCell ⟨b14, 0, none⟩ (.bool true)).drew fun e B => e = .returned (.bool true) ∧ Hid (∃ ρ3, RS ρ w W most av (ts.map pp) Bx2 Dl b13 b14 ρ3 B at' true ∧ Lab ρ2 A ρ3 B ∧ KeepsOthers A B)) := by
                            have hd : Below (A.setCell ⟨b14, 0, none⟩ (.bool true)).heap.size (A.setCell ⟨b14, 0, none⟩ (.bool true)) (A.setCell ⟨b14, 0, none⟩ (.bool true)).drew := (Below.refl _ _).drew
                            have hR1 := HR1.out.1.on hd
                            refine (HPl.out o' (List.mem_append.mpr (.inr (List.mem_of_getElem? ho'))) Bx2 ρ2 _ hR1.tc).mono ?_
                            rintro e B ⟨he, ρ3, h1, h2⟩
                            exact ⟨he, ρ3, hR1.plain h1 h2, (HR1.out.2.1.trans (Lab.below hd)).trans (h2.lab nz0), (HR1.out.2.2.trans (KeepsOthers.drew _)).trans h2.keeps⟩
                          obtain ⟨_, _, c3', _, _, _, _, _, cm'⟩ := HO.out _ _ (HR1.out.1.tc.sub HIn.out.2.1)
                          obtain ⟨c13', _⟩ := HR1.out.1.c13
                          obtain ⟨q0, q1, q2, q3, q4, q5, q6, q7, q8⟩ := hcs.on (n := 0) (HBel.out _ _ (HR1.out.1.tc.sub HIn.out.2.1))
                          subst hma
                          have hmI : (at' : Int) < (ms.length : Int) := by omega
                          clear hcs ho' HR1 HGo
                          gi_wp2
                          refine wpIn_region_any (by kernel_rfl) ?_
                          change wpAnyIn _ _ _ _ _ _ 8 _ _ (World.drew _)
                          generalize hA1 : A.setCell ⟨b14, 0, none⟩ (.bool true) = A1 at *
                          generalize hops : (#[_, _, _, _, _, _, _, _] : Array Oper) = ops
                          have hsil : Silent ops 6 := by rw [← hops]; exact silent_of (by kernel_rfl)
                          have hosz : ops.size = 8 := by rw [← hops]; rfl
                          obtain ⟨V, hV⟩ : ∃ V : Nat → Value, V = fun i => ([.pointer (some ⟨W, 0, none⟩), .pointer (some ⟨b5, 8, none⟩), .slice (some ⟨mk, mp, none⟩) ms.length mcap, .int .i64 at', .pointer (some ⟨mk, mp + at' * 9, none⟩), .agg #[.int .i64 o'.kind, .int .i64 o'.on, .int .i64 o'.other, .string o'.key, .string o'.till, .int .i64 o'.n, .slice o'.pa o'.pl o'.pc, .slice o'.fa o'.fl o'.fc, .slice o'.ma o'.ml o'.mc]] : List Value).getD i undef := ⟨_, rfl⟩
                          have hdst : ∀ j, j < 6 → dstOf ops j = some (131 + j) := by
                            intro j hj
                            have : j = 0 ∨ j = 1 ∨ j = 2 ∨ j = 3 ∨ j = 4 ∨ j = 5 := by omega
                            rw [← hops]
                            rcases this with rfl | rfl | rfl | rfl | rfl | rfl <;> rfl
                          have hun : unl 6 (Array.replicate 8 false) = [0, 1, 2, 3, 4, 5] := by kernel_rfl
                          rw [hosz]
                          generalize hact2 : ({ tmps := _, defers := _ } : Act) = a2
                          obtain ⟨aAll, haAll⟩ : ∃ aAll, putAll ops V [0, 1, 2, 3, 4, 5] a2 = aAll := ⟨_, rfl⟩
                          have haA := haAll
                          rw [← hact2] at haA
                          simp only [putAll, List.foldl, hdst 0 (by decide), hdst 1 (by decide), hdst 2 (by decide), hdst 3 (by decide), hdst 4 (by decide), hdst 5 (by decide), Act.put, hV] at haA
                          simp at haA
                          refine silent_walkR (V := V) hsil aAll 2 ?hop ?hrest 6 _ _ (by simp [hosz]) (by rw [hun]; rfl) (by rw [hun]; exact haAll) ?hno ?hcl
                          case hno => intro i h1 h2; rw [hosz] at h2; simp [h2]
                          case hcl =>
                            intro i j h1
                            exfalso
                            rw [Array.getD_eq_getD_getElem?, Array.getElem?_replicate] at h1
                            split at h1 <;> simp at h1
                          case hop =>
                            rw [← haA]
                            intro i hi o2 ho2
                            have : i = 0 ∨ i = 1 ∨ i = 2 ∨ i = 3 ∨ i = 4 ∨ i = 5 := by omega
                            rw [← hops] at ho2
                            rcases this with rfl | rfl | rfl | rfl | rfl | rfl
                            all_goals (cases ho2; rw [← hops])
                            all_goals (refine quietly_round rfl (by intro c h; cases h) ⟨by rfl, ?_, ?_⟩)
                            all_goals (first | rfl | (simp [hV, go_sem, c3', cm', c13', q0, q1, q2, q3, q4, q5, q6, q7, q8, hmI]; done) | skip)
                          case hrest =>
                            have hup : upTo' ops 6 = #[true, true, true, true, true, true, false, false] := by rw [← hops]; kernel_rfl
                            rw [hup]
                            clear haAll hact2 hup hun hdst hsil hosz hV
                            subst haA
                            subst hops
                            refine wpAnyIn_all (rs := [6]) (by kernel_rfl) (by simp) ?_
                            intro i hi
                            obtain rfl := List.mem_singleton.1 hi
                            refine wpOpIn_step rfl ?_
                            intro K2 hK2
                            go_simp
                            refine ⟨trivial, (fun h => by cases h), (CallsIn.inRound l' (callsIn_wide.2 HP.out)).mono ?_⟩
                            rintro e2 B ⟨rfl, HB⟩
                            obtain ⟨ρ3, hB1, hB2, hB3⟩ := HB.out
                            have HB4 : Hid (RS ρ w W most av (ts.map pp) Bx2 Dl b13 b14 ρ3 B at' true ∧ Lab ρ2 A ρ3 B ∧ KeepsOthers A B) := ⟨hB1, hB2, hB3⟩
                            obtain ⟨d13, g13⟩ := hB1.c13
                            obtain ⟨d14, g14⟩ := hB1.c14
                            clear hB1 hB2 hB3 HB HP c3' cm' c13' q0 q1 q2 q3 q4 q5 q6 q7 q8
                            refine hK2 _ _ ?_
                            refine wpAnyIn_all (rs := [7]) (by kernel_rfl) (by simp) ?_
                            intro i hi
                            obtain rfl := List.mem_singleton.1 hi
                            refine wpOpIn_step rfl ?_
                            intro K3 hK3
                            go_simp
                            refine hK3 _ _ ?_
                            refine wpAnyIn_done (by kernel_rfl) ?_ _
                            gi_wp2
                            exact HGo2.out ρ3 B HB4.out.1 HB4.out.2.1 HB4.out.2.2
                        · have htI0 : ¬ (tn : Int) = 0 := by omega
                          gi_wp2
                          all_goals exact HGo.out true (fun _ => rfl)
                      · gi_wp2
                        all_goals exact HGo.out true (fun _ => rfl)
                    · have hvb : (vv == e.2) = false := by simp [hv]
                      by_cases hm : (at' : Int) < (ms.length : Int)
                      · gi_wp2
                        all_goals exact HGo.out false (fun hg => absurd (HPr.out hg).2.2.1 hv)
                      · gi_wp2
                        all_goals exact HGo.out false (fun hg => absurd (HPr.out hg).2.2.1 hv)
            case done =>
              rintro D ys ρ2 A hD rfl hI hK
              rw [← hact]
              obtain ⟨at', ok, hRS, hat, hpre⟩ := hI
              obtain ⟨rfl, h2⟩ := hpre (List.prefix_refl _)
              rw [List.length_attach, HRR.out] at h2
              have e1 : at' = nn := by have := HNn.out; omega
              subst e1
              have HEnd : Hid (RS ρ w W most av (ts.map pp) Bx2 Dl b13 b14 ρ2 A at' true ∧ A.heap[D]? = some (.deferred (some [])) ∧ w7.heap.size ≤ D) := ⟨hRS, hK, hD⟩
              clear hRS hK hat hpre h2 hD
              obtain ⟨c13, _⟩ := HEnd.out.1.c13
              obtain ⟨c14, _⟩ := HEnd.out.1.c14
              have c12 : A.cell? ⟨b12, 0, none⟩ = some (.int .i64 at') := by have := (HEnd.out.1.tc.st _ HIn.out.1.2.2).2; simp [World.cell?, this, tnB]
              have c10 : A.cell? ⟨b10, 0, none⟩ = some (.int .i64 tn) := by have := (HEnd.out.1.tc.st _ HIn.out.1.1).2; simp [World.cell?, this, tnB]
              go_wp2_with fail
              have etn : tnB (tn + 1) = .cells #[.int .i64 ((tn : Int) + 1)] 3 := by unfold tnB; rw [show ((tn + 1 : Nat) : Int) = (tn : Int) + 1 by omega]
              have hba : Below A.heap.size A (A.alloc (.cells #[.int .i64 ((tn : Int) + 1)] 3)) := below_alloc _ _
              refine Handed.intro (gk - 1) (by omega) (hJ _ _ _ ⟨D :: Dl, A.heap.size, tn + 1, ⟨⟨by omega, by omega⟩, ⟨ρ2, (HEnd.out.1.tc.sub HIn.out.2.1).add hba (Nat.le_refl _) (by rw [etn]; exact heap_alloc_new _ _)⟩, ⟨fun D' hD' => ?_, List.nodup_cons.mpr ⟨fun hm => ?_, HEnd.out.1.df.2⟩⟩⟩, Frm.of _ rfl rfl⟩)
              · rcases List.mem_cons.mp hD' with rfl | hD'
                · exact ⟨by have := HEnd.out.2.2; have := HSz.out; omega, (hba.block _ (idx_lt HEnd.out.2.1)).trans HEnd.out.2.1⟩
                · exact (HEnd.out.1.df.on hba).1 D' hD'
              · have := HIn.out.2.2.2.2 D hm
                have := HEnd.out.2.2
                omega
            case stop =>
              intro D c pre ρ2 A hD hsp hX hK
              rw [← hact]
              obtain ⟨rfl, ok, hRS, hok⟩ := hX
              obtain rfl := hok hsp
              have HEnd : Hid (RS ρ w W most av (ts.map pp) Bx2 Dl b13 b14 ρ2 A nn true ∧ A.heap[D]? = some (.deferred (some [])) ∧ w7.heap.size ≤ D) := ⟨hRS, hK, hD⟩
              clear hRS hK hD hok hsp
              obtain ⟨c13, _⟩ := HEnd.out.1.c13
              obtain ⟨c14, _⟩ := HEnd.out.1.c14
              have c12 : A.cell? ⟨b12, 0, none⟩ = some (.int .i64 nn) := by have := (HEnd.out.1.tc.st _ HIn.out.1.2.2).2; simp [World.cell?, this, tnB]
              have c10 : A.cell? ⟨b10, 0, none⟩ = some (.int .i64 tn) := by have := (HEnd.out.1.tc.st _ HIn.out.1.1).2; simp [World.cell?, this, tnB]
              refine wpIn_wide.2 ?_
              go_wp2_with fail
              have etn : tnB (tn + 1) = .cells #[.int .i64 ((tn : Int) + 1)] 3 := by unfold tnB; rw [show ((tn + 1 : Nat) : Int) = (tn : Int) + 1 by omega]
              have hba : Below A.heap.size A (A.alloc (.cells #[.int .i64 ((tn : Int) + 1)] 3)) := below_alloc _ _
              refine Handed.intro (gk - 1) (by omega) (hJ _ _ _ ⟨D :: Dl, A.heap.size, tn + 1, ⟨⟨by omega, by omega⟩, ⟨ρ2, (HEnd.out.1.tc.sub HIn.out.2.1).add hba (Nat.le_refl _) (by rw [etn]; exact heap_alloc_new _ _)⟩, ⟨fun D' hD' => ?_, List.nodup_cons.mpr ⟨fun hm => ?_, HEnd.out.1.df.2⟩⟩⟩, Frm.of _ rfl rfl⟩)
              · rcases List.mem_cons.mp hD' with rfl | hD'
                · exact ⟨by have := HEnd.out.2.2; have := HSz.out; omega, (hba.block _ (idx_lt HEnd.out.2.1)).trans HEnd.out.2.1⟩
                · exact (HEnd.out.1.df.on hba).1 D' hD'
              · have := HIn.out.2.2.2.2 D hm
                have := HEnd.out.2.2
                omega
          · have HN3 : Hid (o.n = nn) := hN3.symm
            clear hN3
            go_wp2_with (first
              | (go_at_call 29; refine HRs.out.mono ?_; rintro e w2 ⟨ao0, rn0, cap0, rfl, hb2⟩; have hbq := fun ob => hb2.trans ((below_alloc w2 ob).mono hb2.size); have c0' := fun ob => cell_later (hbq ob) c0; have ct1' := fun ob => cell_later (hbq ob) ct1; have ck' := fun ob => cell_later (hbq ob) ck)
              | (go_at_call 30; refine (HRp.out _ (hbq _)).mono ?_; rintro e w3 ⟨ao, cap, rfl, hb3, HRow⟩; have hz3 : w3.heap[w2.heap.size]? = some (.cells #[.slice ao0 rn0 cap0] 34 (0, 0)) := (hb3.block _ (by simp)).trans (heap_alloc_new w2 _); have x1 : w3.cell? ⟨w2.heap.size, 0, none⟩ = some (.slice ao0 rn0 cap0) := (by simp [World.cell?, hz3]); have x2 : w3.frozen? ⟨w2.heap.size, 0, none⟩ = false := (by simp [World.frozen?, hz3]); have x3 : ∀ v ob, ((w3.setCell ⟨w2.heap.size, 0, none⟩ v).alloc ob).cell? ⟨b5, 5, none⟩ = some (.int .i64 o.n) := fun v ob => cell_later (below_alloc _ ob) ((World.cell?_of_block (w := w3) (a := ⟨b5, 5, none⟩) (Below.heap_setCell _ _ _ _ (by show b5 ≠ w2.heap.size; have := hb2.size; omega))).trans (cell_later hb3 (cell_later (hbq _) cn)))))
            clear c0' ct1' ck' x1 x2 x3
            generalize hni : o.n = ni
            have hni2 : ni = (nn : Int) := by rw [← hni]; exact HN3.out
            subst hni2
            clear hni HN3
            obtain ⟨w3s, hw3s⟩ : ∃ w3s, w3.setCell ⟨w2.heap.size, 0, none⟩ (.slice ao rn cap) = w3s := ⟨_, rfl⟩
            rw [hw3s]
            have hs3 : w3s.heap.size = w3.heap.size := by rw [← hw3s]; simp [World.setCell]
            have hb3s : Below wr'.heap.size wr' w3s := by
              have h1 := (hbq (.cells #[.slice ao0 rn0 cap0] 34)).trans (hb3.mono (hbq _).size)
              rw [← hw3s]
              exact h1.setCell (p := ⟨w2.heap.size, 0, none⟩) hb2.size _
            have k11 : w3s.heap[w2.heap.size]? = some (.cells #[.slice ao rn cap] 34 (0, 0)) := by
              rw [← hw3s]
              have := Lib.heap_setCell_same (i := 0) hz3 (.slice ao rn cap)
              rw [this]; rfl
            have hrow3 : RowOk wr' ao (wantOf o l) w3s := by rw [← hw3s]; exact HRow.out.store (by have := hb2.size; simp; omega) (by simp) _
            obtain ⟨w7, hw7⟩ : ∃ w7, ((w3s.alloc (.cells #[.int .i64 nn] 3)).alloc (.cells #[.int .i64 0] 3)).alloc (.cells #[.bool true] 4) = w7 := ⟨_, rfl⟩
            rw [hw7]
            obtain ⟨Bx2, ρ7, hTc, h13, h14, hix, hsub, i10, i11, i12, hcel, hrow, hdf, hDlt, hlt2, hlo2⟩ := begin_rangeP (b11 := w2.heap.size) (oA := .cells #[.slice ao rn cap] 34) (oB := tnB nn) HT1.out hb3s hb2.size k11 hrow3 HTw.out HDl.out HBx.out.2 rfl rfl hw7
            have a13 := (three_boxes hw7).2.2.1
            have a14 := (three_boxes hw7).2.2.2.1
            have hs7 := (three_boxes hw7).2.2.2.2
            have hk11 := idx_lt k11
            obtain ⟨b11, b12, b13, b14, e11, e12, e13, e14⟩ : ∃ b11 b12 b13 b14, w2.heap.size = b11 ∧ w3.heap.size = b12 ∧ w3.heap.size + 1 = b13 ∧ w3.heap.size + 1 + 1 = b14 := ⟨_, _, _, _, rfl, rfl, rfl, rfl⟩
            rw [hs3] at h13 h14 a13 a14 i12 hs7 hlt2 hlo2 hk11
            obtain ⟨β, hβ⟩ : ∃ β, b12 = β + 1 := ⟨b12 - 1, by omega⟩
            have HSz : Hid (b12 = β + 1 ∧ b13 = β + 2 ∧ b14 = β + 3 ∧ w7.heap.size = β + 4 ∧ w.heap.size ≤ β ∧ ∀ e ∈ Bx2, e.1 < β + 2) := ⟨by omega, by omega, by omega, by omega, by omega, fun e he => by have := hlt2 e he; omega⟩
            have hβ2 : b11 ≤ β := by omega
            rw [e14] at h14 a14 ⊢
            rw [e13] at h13 a13 ⊢
            rw [e12] at i12 ⊢
            rw [e11] at i11 ⊢
            have HR0 : Hid (RS ρ w W most av (ts.map pp) Bx2 Dl b13 b14 ρ7 w7 0 true) := ⟨hTc, h13, h14, hdf, a13, a14⟩
            have HSq := HSeq.out ρ7 w7 l (hTc.sub hsub).st hix
            have HIn : Hid (((b10, tnB tn) ∈ Bx2 ∧ (b11, .cells #[.slice ao rn cap] 34) ∈ Bx2 ∧ (b12, tnB nn) ∈ Bx2) ∧ (∀ e ∈ Bx, e ∈ Bx2) ∧ (∀ e ∈ Bx2, e.2.isCells = true) ∧ RowIn Bx2 ao (wantOf o l) ∧ ∀ D ∈ Dl, D < w7.heap.size) := ⟨⟨i10, i11, i12⟩, hsub, hcel, hrow, hDlt⟩
            have hfresh : ∀ k, k < w7.heap.size → ρ7 k = ρ7 k := fun _ _ => rfl
            clear hw3s hs3 hb3s k11 hrow3 hk11 hz3 hb3 hbq hβ hw7 e11 e12 e13 e14 hTc h13 h14 hix hsub i10 i11 i12 hcel hrow hdf hDlt hlt2 hlo2 a13 a14 hs7 HRs HRp HRow hb2 HTw HT1
            generalize hR : wantOf o l = R at *
            have HRR : Hid (R.length = rn) := HRd.out
            clear hR HRd
            generalize hact : ({ tmps := _, defers := _ } : Act) = a0
            refine (wpIn_wide (n := 5)).1 ?_
            refine range_lab (by rw [← hact]; rfl) (enters_of Tryz.func44 (by kernel_rfl) rfl) HSq (Below.refl _ _) hfresh (fun _ => rfl)
              (RGo ρ w W most av (ts.map pp) Bx2 Dl b13 b14 nn R)
              (RLv ρ w W most av (ts.map pp) Bx2 Dl b13 b14 nn R)
              ?own ?ownx ?fr ?start
              (fun x => { tmps := (((a0.tmps.setIfInBounds 83 (.string ⟨x.1.1.toArray⟩)).setIfInBounds 84 (.int .i64 x.1.2)).setIfInBounds 15 (.string ⟨x.1.1.toArray⟩)).setIfInBounds 16 (.int .i64 x.1.2), defers := [] }) ?assign ?body ?done ?stop
            case own =>
              rintro ρ2 pre A B row ⟨at', ok, h1, h2, h3⟩ hg hr
              exact ⟨at', ok, h1.turn hg hr (by have := HSz.out; omega) HIn.out.2.2.1 HIn.out.2.2.2.2, h2, h3⟩
            case ownx =>
              rintro c ρ2 pre A B row ⟨hc, ok, h1, h2⟩ hg hr
              exact ⟨hc, ok, h1.turn hg hr (by have := HSz.out; omega) HIn.out.2.2.1 HIn.out.2.2.2.2, h2⟩
            case fr =>
              rintro ρ2 pre A ⟨at', ok, h1, _⟩
              exact h1.tc.fresh
            case start => exact ⟨0, true, HR0.out, Nat.zero_le _, fun _ => ⟨rfl, rfl⟩⟩
            case assign =>
              intro m' l' x A K2 hK2
              rw [← hact] at hK2 ⊢
              simp [encR] at hK2 ⊢
              gi_wp2
              exact hK2
            case body =>
              intro m' l' ρ2 pre x A hI hlen
              rw [← hact]
              obtain ⟨at', ok, hRS, hat, hpre⟩ := hI
              obtain ⟨kk, hkk⟩ : ∃ kk : ByteArray, (⟨x.1.1.toArray⟩ : ByteArray) = kk := ⟨_, rfl⟩
              obtain ⟨vv, hvv⟩ : ∃ vv, x.1.2 = vv := ⟨_, rfl⟩
              obtain ⟨c13, f13⟩ := hRS.c13
              obtain ⟨c14, f14⟩ := hRS.c14
              obtain ⟨_, _, c3, c0, ck, cti, cn, cf, cm⟩ := HO.out _ _ (hRS.tc.sub HIn.out.2.1)
              have c10 : A.cell? ⟨b10, 0, none⟩ = some (.int .i64 tn) := by have := (hRS.tc.st _ HIn.out.1.1).2; simp [World.cell?, this, tnB]
              have c11 : A.cell? ⟨b11, 0, none⟩ = some (.slice ao rn cap) := by have := (hRS.tc.st _ HIn.out.1.2.1).2; simp [World.cell?, this]
              have c12 : A.cell? ⟨b12, 0, none⟩ = some (.int .i64 nn) := by have := (hRS.tc.st _ HIn.out.1.2.2).2; simp [World.cell?, this, tnB]
              have hb10 : b10 < β + 2 := HSz.out.2.2.2.2.2 _ HIn.out.1.1
              have hb5 : b5 < β + 2 := HSz.out.2.2.2.2.2 _ (HIn.out.2.1 _ HBx.out.1.2.2)
              have hb3' : b3 < β + 2 := HSz.out.2.2.2.2.2 _ (HIn.out.2.1 _ HBx.out.1.1)
              obtain ⟨s12, s13, s14, s7, slo, _⟩ := HSz.out
              have hne : b13 ≠ b14 ∧ b14 ≠ b13 ∧ b10 ≠ b14 ∧ b11 ≠ b14 ∧ b12 ≠ b14 ∧ b5 ≠ b14 ∧ b3 ≠ b14 := by omega
              have hlo : w.heap.size ≤ b13 ∧ w.heap.size ≤ b14 := by omega
              have HRS : Hid (RS ρ w W most av (ts.map pp) Bx2 Dl b13 b14 ρ2 A at' ok) := hRS
              have hNn := HNn.out
              have hRR := HRR.out
              clear s12 s13 s14 s7 slo hb10 hb5 hb3' hRS
              simp only [hkk, hvv]
              by_cases hge : nn ≤ at'
              · have e1 : at' = nn := by omega
                have HLv : Hid (∀ b : Bool, (pre ++ [x] <+: R.attach → b = true) → KeepsOthers A (A.setCell ⟨b14, 0, none⟩ (.bool b)) ∧ ∃ ρ', RLv ρ w W most av (ts.map pp) Bx2 Dl b13 b14 nn R (.exit 4) ρ' (pre ++ [x]) (A.setCell ⟨b14, 0, none⟩ (.bool b))) := fun b hb => by
                  obtain ⟨h1, h2, h3⟩ := HRS.out.setOk hne.1 hlo.2 b
                  rw [e1] at h1
                  exact ⟨h3, ρ2, rfl, b, h1, hb⟩
                have HPr : Hid (pre ++ [x] <+: R.attach → ok = true ∧ at' < rn) := fun hg => by
                  have h1 := hpre ((List.prefix_append _ _).trans hg)
                  have h2 := hg.length_le
                  rw [List.length_append, List.length_attach, hRR] at h2
                  simp at h2
                  exact ⟨h1.1, by omega⟩
                have hgeI : (nn : Int) ≤ (at' : Int) := by omega
                clear hpre hat hlen
                cases ok with
                | false =>
                  gi_wp2
                  all_goals exact HLv.out false (fun hg => by have := (HPr.out hg).1; cases this)
                | true =>
                  by_cases h1 : (at' : Int) < (rn : Int)
                  · by_cases h2 : (0 : Int) ≤ o.n
                    · gi_wp2
                      all_goals exact HLv.out true (fun _ => rfl)
                    · gi_wp2
                      all_goals exact HLv.out false (fun hg => by omega)
                  · gi_wp2
                    all_goals exact HLv.out false (fun hg => by have := (HPr.out hg).2; omega)
              · have hlt' : at' < nn := by omega
                obtain ⟨e, he⟩ : ∃ e, R[at']? = some e := ⟨_, List.getElem?_eq_getElem (by omega)⟩
                obtain ⟨g, ob, hao, hgin, hgp⟩ : ∃ g ob, ao = some ⟨g, 0, none⟩ ∧ (g, ob) ∈ Bx2 ∧ ∀ w' : World, w'.heap[g]? = some ob → PairsAt w' g R := by
                  rcases HIn.out.2.2.2.1 with h0 | h
                  · rw [h0] at hRR; simp at hRR; omega
                  · exact h
                obtain ⟨cg0, cg1⟩ := hgp A (HRS.out.tc.st _ hgin).2 at' e he
                have hgne : g ≠ b14 ∧ g ≠ b13 := by have := HSz.out.2.2.2.2.2 _ hgin; have := HSz.out; omega
                have HPr : Hid (pre ++ [x] <+: R.attach → ok = true ∧ (kk.toList == (keyOf e).toList) = true ∧ vv = e.2 ∧ at' = pre.length) := fun hg => by
                  have h1 := hpre ((List.prefix_append _ _).trans hg)
                  obtain ⟨z, hz⟩ := hg
                  have h2 : R.attach[pre.length]? = some x := by rw [← hz]; simp
                  have h3 : R[pre.length]? = some x.1 := by
                    have := congrArg (Option.map (·.1)) h2
                    rw [← List.getElem?_map, List.attach_map_subtype_val] at this
                    exact this
                  rw [← h1.2, he] at h3
                  cases h3
                  refine ⟨h1.1, ?_, hvv.symm, h1.2⟩
                  rw [← hkk]
                  exact beq_self_eq_true _
                have HGo : Hid (∀ ok1 : Bool, (pre ++ [x] <+: R.attach → ok1 = true) → KeepsOthers A ((A.setCell ⟨b14, 0, none⟩ (.bool ok1)).setCell ⟨b13, 0, none⟩ (.int .i64 ((at' : Int) + 1))) ∧ ∃ ρ', Lab ρ2 A ρ' ((A.setCell ⟨b14, 0, none⟩ (.bool ok1)).setCell ⟨b13, 0, none⟩ (.int .i64 ((at' : Int) + 1))) ∧ RGo ρ w W most av (ts.map pp) Bx2 Dl b13 b14 nn R ρ' (pre ++ [x]) ((A.setCell ⟨b14, 0, none⟩ (.bool ok1)).setCell ⟨b13, 0, none⟩ (.int .i64 ((at' : Int) + 1)))) := fun ok1 hok => by
                  obtain ⟨h1, h2, h3⟩ := HRS.out.setOk hne.1 hlo.2 ok1
                  obtain ⟨h4, h5, h6⟩ := h1.setAt hne.1 hlo.1 (at' + 1)
                  rw [show ((at' + 1 : Nat) : Int) = (at' : Int) + 1 by omega] at h4 h5 h6
                  exact ⟨h3.trans h6, ρ2, h2.trans h5, at' + 1, ok1, h4, by omega, fun hg => ⟨hok hg, by rw [(HPr.out hg).2.2.2]; simp⟩⟩
                have HR1 : Hid (RS ρ w W most av (ts.map pp) Bx2 Dl b13 b14 ρ2 (A.setCell ⟨b14, 0, none⟩ (.bool true)) at' true ∧ Lab ρ2 A ρ2 (A.setCell ⟨b14, 0, none⟩ (.bool true)) ∧ KeepsOthers A (A.setCell ⟨b14, 0, none⟩ (.bool true))) := HRS.out.setOk hne.1 hlo.2 true
                have hgeI : ¬ (nn : Int) ≤ (at' : Int) := by omega
                have hatI : (0 : Int) ≤ (at' : Int) ∧ (at' : Int) < 3000 := by omega
                have hrnI : (at' : Int) < (rn : Int) := by omega
                subst hao
                have hat3 : at' < 3000 := by omega
                clear hpre he hgp hgin hlen hge hRR hNn hvv hkk
                cases ok with
                | false =>
                  by_cases hm : (at' : Int) < (ms.length : Int)
                  · gi_wp2
                    all_goals exact HGo.out false (fun hg => by have := (HPr.out hg).1; cases this)
                  · gi_wp2
                    all_goals exact HGo.out false (fun hg => by have := (HPr.out hg).1; cases this)
                | true =>
                  cases hq : (kk.toList == (keyOf e).toList) with
                  | false =>
                    by_cases hm : (at' : Int) < (ms.length : Int)
                    · gi_wp2
                      all_goals exact HGo.out false (fun hg => by have := (HPr.out hg).2.1; rw [hq] at this; cases this)
                    · gi_wp2
                      all_goals exact HGo.out false (fun hg => by have := (HPr.out hg).2.1; rw [hq] at this; cases this)
                  | true =>
                    by_cases hv : vv = e.2
                    · by_cases hm : (at' : Int) < (ms.length : Int)
                      · by_cases ht0 : tn = 0
                        · subst ht0
                          obtain ⟨o', ho'⟩ : ∃ o', ms[at']? = some o' := ⟨_, List.getElem?_eq_getElem (by omega)⟩
                          obtain ⟨hma, hcs⟩ := HMC.out at' o' ho'
                          have HGo2 : Hid (∀ ρ3 B, RS ρ w W most av (ts.map pp) Bx2 Dl b13 b14 ρ3 B at' true → Lab ρ2 A ρ3 B → KeepsOthers A B → KeepsOthers A ((B.setCell ⟨b14, 0, none⟩ (.bool true)).setCell ⟨b13, 0, none⟩ (.int .i64 ((at' : Int) + 1))) ∧ ∃ ρ', Lab ρ2 A ρ' ((B.setCell ⟨b14, 0, none⟩ (.bool true)).setCell ⟨b13, 0, none⟩ (.int .i64 ((at' : Int) + 1))) ∧ RGo ρ w W most av (ts.map pp) Bx2 Dl b13 b14 nn R ρ' (pre ++ [x]) ((B.setCell ⟨b14, 0, none⟩ (.bool true)).setCell ⟨b13, 0, none⟩ (.int .i64 ((at' : Int) + 1)))) := fun ρ3 B hB hL hK => by
                            obtain ⟨h1, h2, h3⟩ := hB.setOk hne.1 hlo.2 true
                            obtain ⟨h4, h5, h6⟩ := h1.setAt hne.1 hlo.1 (at' + 1)
                            rw [show ((at' + 1 : Nat) : Int) = (at' : Int) + 1 by omega] at h4 h5 h6
                            exact ⟨(hK.trans h3).trans h6, ρ3, (hL.trans h2).trans h5, at' + 1, true, h4, by omega, fun hg => ⟨rfl, by rw [(HPr.out hg).2.2.2]; simp⟩⟩
                          have HP : Hid (Calls Tryz.prog 22 #[.pointer (some ⟨W, 0, none⟩), .agg #[.int .i64 o'.kind, .int .i64 o'.on, .int .i64 o'.other, .string o'.key, .string o'.till, .int .i64 o'.n, .slice o'.pa o'.pl o'.pc, .slice o'.fa o'.fl o'.fc, .slice o'.ma o'.ml o'.mc]] (A.setCell ⟨b14, 0, none⟩ (.bool true)).drew fun e B => e = .returned (.bool true) ∧ Hid (∃ ρ3, RS ρ w W most av (ts.map pp) Bx2 Dl b13 b14 ρ3 B at' true ∧ Lab ρ2 A ρ3 B ∧ KeepsOthers A B)) := by
                            have hd : Below (A.setCell ⟨b14, 0, none⟩ (.bool true)).heap.size (A.setCell ⟨b14, 0, none⟩ (.bool true)) (A.setCell ⟨b14, 0, none⟩ (.bool true)).drew := (Below.refl _ _).drew
                            have hR1 := HR1.out.1.on hd
                            refine (HPl.out o' (List.mem_append.mpr (.inr (List.mem_of_getElem? ho'))) Bx2 ρ2 _ hR1.tc).mono ?_
                            rintro e B ⟨he, ρ3, h1, h2⟩
                            exact ⟨he, ρ3, hR1.plain h1 h2, (HR1.out.2.1.trans (Lab.below hd)).trans (h2.lab nz0), (HR1.out.2.2.trans (KeepsOthers.drew _)).trans h2.keeps⟩
                          obtain ⟨_, _, c3', _, _, _, _, _, cm'⟩ := HO.out _ _ (HR1.out.1.tc.sub HIn.out.2.1)
                          obtain ⟨c13', _⟩ := HR1.out.1.c13
                          obtain ⟨q0, q1, q2, q3, q4, q5, q6, q7, q8⟩ := hcs.on (n := 0) (HBel.out _ _ (HR1.out.1.tc.sub HIn.out.2.1))
                          subst hma
                          have hmI : (at' : Int) < (ms.length : Int) := by omega
                          clear hcs ho' HR1 HGo
                          gi_wp2
                          refine wpIn_region_any (by kernel_rfl) ?_
                          change wpAnyIn _ _ _ _ _ _ 8 _ _ (World.drew _)
                          generalize hA1 : A.setCell ⟨b14, 0, none⟩ (.bool true) = A1 at *
                          generalize hops : (#[_, _, _, _, _, _, _, _] : Array Oper) = ops
                          have hsil : Silent ops 6 := by rw [← hops]; exact silent_of (by kernel_rfl)
                          have hosz : ops.size = 8 := by rw [← hops]; rfl
                          obtain ⟨V, hV⟩ : ∃ V : Nat → Value, V = fun i => ([.pointer (some ⟨W, 0, none⟩), .pointer (some ⟨b5, 8, none⟩), .slice (some ⟨mk, mp, none⟩) ms.length mcap, .int .i64 at', .pointer (some ⟨mk, mp + at' * 9, none⟩), .agg #[.int .i64 o'.kind, .int .i64 o'.on, .int .i64 o'.other, .string o'.key, .string o'.till, .int .i64 o'.n, .slice o'.pa o'.pl o'.pc, .slice o'.fa o'.fl o'.fc, .slice o'.ma o'.ml o'.mc]] : List Value).getD i undef := ⟨_, rfl⟩
                          have hdst : ∀ j, j < 6 → dstOf ops j = some (131 + j) := by
                            intro j hj
                            have : j = 0 ∨ j = 1 ∨ j = 2 ∨ j = 3 ∨ j = 4 ∨ j = 5 := by omega
                            rw [← hops]
                            rcases this with rfl | rfl | rfl | rfl | rfl | rfl <;> rfl
                          have hun : unl 6 (Array.replicate 8 false) = [0, 1, 2, 3, 4, 5] := by kernel_rfl
                          rw [hosz]
                          generalize hact2 : ({ tmps := _, defers := _ } : Act) = a2
                          obtain ⟨aAll, haAll⟩ : ∃ aAll, putAll ops V [0, 1, 2, 3, 4, 5] a2 = aAll := ⟨_, rfl⟩
                          have haA := haAll
                          rw [← hact2] at haA
                          simp only [putAll, List.foldl, hdst 0 (by decide), hdst 1 (by decide), hdst 2 (by decide), hdst 3 (by decide), hdst 4 (by decide), hdst 5 (by decide), Act.put, hV] at haA
                          simp at haA
                          refine silent_walkR (V := V) hsil aAll 2 ?hop ?hrest 6 _ _ (by simp [hosz]) (by rw [hun]; rfl) (by rw [hun]; exact haAll) ?hno ?hcl
                          case hno => intro i h1 h2; rw [hosz] at h2; simp [h2]
                          case hcl =>
                            intro i j h1
                            exfalso
                            rw [Array.getD_eq_getD_getElem?, Array.getElem?_replicate] at h1
                            split at h1 <;> simp at h1
                          case hop =>
                            rw [← haA]
                            intro i hi o2 ho2
                            have : i = 0 ∨ i = 1 ∨ i = 2 ∨ i = 3 ∨ i = 4 ∨ i = 5 := by omega
                            rw [← hops] at ho2
                            rcases this with rfl | rfl | rfl | rfl | rfl | rfl
                            all_goals (cases ho2; rw [← hops])
                            all_goals (refine quietly_round rfl (by intro c h; cases h) ⟨by rfl, ?_, ?_⟩)
                            all_goals (first | rfl | (simp [hV, go_sem, c3', cm', c13', q0, q1, q2, q3, q4, q5, q6, q7, q8, hmI]; done) | skip)
                          case hrest =>
                            have hup : upTo' ops 6 = #[true, true, true, true, true, true, false, false] := by rw [← hops]; kernel_rfl
                            rw [hup]
                            clear haAll hact2 hup hun hdst hsil hosz hV
                            subst haA
                            subst hops
                            refine wpAnyIn_all (rs := [6]) (by kernel_rfl) (by simp) ?_
                            intro i hi
                            obtain rfl := List.mem_singleton.1 hi
                            refine wpOpIn_step rfl ?_
                            intro K2 hK2
                            go_simp
                            refine ⟨trivial, (fun h => by cases h), (CallsIn.inRound l' (callsIn_wide.2 HP.out)).mono ?_⟩
                            rintro e2 B ⟨rfl, HB⟩
                            obtain ⟨ρ3, hB1, hB2, hB3⟩ := HB.out
                            have HB4 : Hid (RS ρ w W most av (ts.map pp) Bx2 Dl b13 b14 ρ3 B at' true ∧ Lab ρ2 A ρ3 B ∧ KeepsOthers A B) := ⟨hB1, hB2, hB3⟩
                            obtain ⟨d13, g13⟩ := hB1.c13
                            obtain ⟨d14, g14⟩ := hB1.c14
                            clear hB1 hB2 hB3 HB HP c3' cm' c13' q0 q1 q2 q3 q4 q5 q6 q7 q8
                            refine hK2 _ _ ?_
                            refine wpAnyIn_all (rs := [7]) (by kernel_rfl) (by simp) ?_
                            intro i hi
                            obtain rfl := List.mem_singleton.1 hi
                            refine wpOpIn_step rfl ?_
                            intro K3 hK3
                            go_simp
                            refine hK3 _ _ ?_
                            refine wpAnyIn_done (by kernel_rfl) ?_ _
                            gi_wp2
                            exact HGo2.out ρ3 B HB4.out.1 HB4.out.2.1 HB4.out.2.2
                        · have htI0 : ¬ (tn : Int) = 0 := by omega
                          gi_wp2
                          all_goals exact HGo.out true (fun _ => rfl)
                      · gi_wp2
                        all_goals exact HGo.out true (fun _ => rfl)
                    · have hvb : (vv == e.2) = false := by simp [hv]
                      by_cases hm : (at' : Int) < (ms.length : Int)
                      · gi_wp2
                        all_goals exact HGo.out false (fun hg => absurd (HPr.out hg).2.2.1 hv)
                      · gi_wp2
                        all_goals exact HGo.out false (fun hg => absurd (HPr.out hg).2.2.1 hv)
            case done =>
              rintro D ys ρ2 A hD rfl hI hK
              rw [← hact]
              obtain ⟨at', ok, hRS, hat, hpre⟩ := hI
              obtain ⟨rfl, h2⟩ := hpre (List.prefix_refl _)
              rw [List.length_attach, HRR.out] at h2
              have e1 : at' = nn := by have := HNn.out; omega
              subst e1
              have HEnd : Hid (RS ρ w W most av (ts.map pp) Bx2 Dl b13 b14 ρ2 A at' true ∧ A.heap[D]? = some (.deferred (some [])) ∧ w7.heap.size ≤ D) := ⟨hRS, hK, hD⟩
              clear hRS hK hat hpre h2 hD
              obtain ⟨c13, _⟩ := HEnd.out.1.c13
              obtain ⟨c14, _⟩ := HEnd.out.1.c14
              have c12 : A.cell? ⟨b12, 0, none⟩ = some (.int .i64 at') := by have := (HEnd.out.1.tc.st _ HIn.out.1.2.2).2; simp [World.cell?, this, tnB]
              have c10 : A.cell? ⟨b10, 0, none⟩ = some (.int .i64 tn) := by have := (HEnd.out.1.tc.st _ HIn.out.1.1).2; simp [World.cell?, this, tnB]
              go_wp2_with fail
              have etn : tnB (tn + 1) = .cells #[.int .i64 ((tn : Int) + 1)] 3 := by unfold tnB; rw [show ((tn + 1 : Nat) : Int) = (tn : Int) + 1 by omega]
              have hba : Below A.heap.size A (A.alloc (.cells #[.int .i64 ((tn : Int) + 1)] 3)) := below_alloc _ _
              refine Handed.intro (gk - 1) (by omega) (hJ _ _ _ ⟨D :: Dl, A.heap.size, tn + 1, ⟨⟨by omega, by omega⟩, ⟨ρ2, (HEnd.out.1.tc.sub HIn.out.2.1).add hba (Nat.le_refl _) (by rw [etn]; exact heap_alloc_new _ _)⟩, ⟨fun D' hD' => ?_, List.nodup_cons.mpr ⟨fun hm => ?_, HEnd.out.1.df.2⟩⟩⟩, Frm.of _ rfl rfl⟩)
              · rcases List.mem_cons.mp hD' with rfl | hD'
                · exact ⟨by have := HEnd.out.2.2; have := HSz.out; omega, (hba.block _ (idx_lt HEnd.out.2.1)).trans HEnd.out.2.1⟩
                · exact (HEnd.out.1.df.on hba).1 D' hD'
              · have := HIn.out.2.2.2.2 D hm
                have := HEnd.out.2.2
                omega
            case stop =>
              intro D c pre ρ2 A hD hsp hX hK
              rw [← hact]
              obtain ⟨rfl, ok, hRS, hok⟩ := hX
              obtain rfl := hok hsp
              have HEnd : Hid (RS ρ w W most av (ts.map pp) Bx2 Dl b13 b14 ρ2 A nn true ∧ A.heap[D]? = some (.deferred (some [])) ∧ w7.heap.size ≤ D) := ⟨hRS, hK, hD⟩
              clear hRS hK hD hok hsp
              obtain ⟨c13, _⟩ := HEnd.out.1.c13
              obtain ⟨c14, _⟩ := HEnd.out.1.c14
              have c12 : A.cell? ⟨b12, 0, none⟩ = some (.int .i64 nn) := by have := (HEnd.out.1.tc.st _ HIn.out.1.2.2).2; simp [World.cell?, this, tnB]
              have c10 : A.cell? ⟨b10, 0, none⟩ = some (.int .i64 tn) := by have := (HEnd.out.1.tc.st _ HIn.out.1.1).2; simp [World.cell?, this, tnB]
              refine wpIn_wide.2 ?_
              go_wp2_with fail
              have etn : tnB (tn + 1) = .cells #[.int .i64 ((tn : Int) + 1)] 3 := by unfold tnB; rw [show ((tn + 1 : Nat) : Int) = (tn : Int) + 1 by omega]
              have hba : Below A.heap.size A (A.alloc (.cells #[.int .i64 ((tn : Int) + 1)] 3)) := below_alloc _ _
              refine Handed.intro (gk - 1) (by omega) (hJ _ _ _ ⟨D :: Dl, A.heap.size, tn + 1, ⟨⟨by omega, by omega⟩, ⟨ρ2, (HEnd.out.1.tc.sub HIn.out.2.1).add hba (Nat.le_refl _) (by rw [etn]; exact heap_alloc_new _ _)⟩, ⟨fun D' hD' => ?_, List.nodup_cons.mpr ⟨fun hm => ?_, HEnd.out.1.df.2⟩⟩⟩, Frm.of _ rfl rfl⟩)
              · rcases List.mem_cons.mp hD' with rfl | hD'
                · exact ⟨by have := HEnd.out.2.2; have := HSz.out; omega, (hba.block _ (idx_lt HEnd.out.2.1)).trans HEnd.out.2.1⟩
                · exact (HEnd.out.1.df.on hba).1 D' hD'
              · have := HIn.out.2.2.2.2 D hm
                have := HEnd.out.2.2
                omega
          · have HN3 : Hid ((rn : Int) = nn) := by show (rn : Int) = nn; omega
            clear hN3
            go_wp2_with (first
              | (go_at_call 29; refine HRs.out.mono ?_; rintro e w2 ⟨ao0, rn0, cap0, rfl, hb2⟩; have hbq := fun ob => hb2.trans ((below_alloc w2 ob).mono hb2.size); have c0' := fun ob => cell_later (hbq ob) c0; have ct1' := fun ob => cell_later (hbq ob) ct1; have ck' := fun ob => cell_later (hbq ob) ck)
              | (go_at_call 30; refine (HRp.out _ (hbq _)).mono ?_; rintro e w3 ⟨ao, cap, rfl, hb3, HRow⟩; have hz3 : w3.heap[w2.heap.size]? = some (.cells #[.slice ao0 rn0 cap0] 34 (0, 0)) := (hb3.block _ (by simp)).trans (heap_alloc_new w2 _); have x1 : w3.cell? ⟨w2.heap.size, 0, none⟩ = some (.slice ao0 rn0 cap0) := (by simp [World.cell?, hz3]); have x2 : w3.frozen? ⟨w2.heap.size, 0, none⟩ = false := (by simp [World.frozen?, hz3]); have x3 : ∀ v ob, ((w3.setCell ⟨w2.heap.size, 0, none⟩ v).alloc ob).cell? ⟨b5, 5, none⟩ = some (.int .i64 o.n) := fun v ob => cell_later (below_alloc _ ob) ((World.cell?_of_block (w := w3) (a := ⟨b5, 5, none⟩) (Below.heap_setCell _ _ _ _ (by show b5 ≠ w2.heap.size; have := hb2.size; omega))).trans (cell_later hb3 (cell_later (hbq _) cn)))))
            clear c0' ct1' ck' x1 x2 x3
            generalize hni : (rn : Int) = ni
            have hni2 : ni = (nn : Int) := by rw [← hni]; exact HN3.out
            subst hni2
            clear hni HN3
            obtain ⟨w3s, hw3s⟩ : ∃ w3s, w3.setCell ⟨w2.heap.size, 0, none⟩ (.slice ao rn cap) = w3s := ⟨_, rfl⟩
            rw [hw3s]
            have hs3 : w3s.heap.size = w3.heap.size := by rw [← hw3s]; simp [World.setCell]
            have hb3s : Below wr'.heap.size wr' w3s := by
              have h1 := (hbq (.cells #[.slice ao0 rn0 cap0] 34)).trans (hb3.mono (hbq _).size)
              rw [← hw3s]
              exact h1.setCell (p := ⟨w2.heap.size, 0, none⟩) hb2.size _
            have k11 : w3s.heap[w2.heap.size]? = some (.cells #[.slice ao rn cap] 34 (0, 0)) := by
              rw [← hw3s]
              have := Lib.heap_setCell_same (i := 0) hz3 (.slice ao rn cap)
              rw [this]; rfl
            have hrow3 : RowOk wr' ao (wantOf o l) w3s := by rw [← hw3s]; exact HRow.out.store (by have := hb2.size; simp; omega) (by simp) _
            obtain ⟨w7, hw7⟩ : ∃ w7, ((w3s.alloc (.cells #[.int .i64 nn] 3)).alloc (.cells #[.int .i64 0] 3)).alloc (.cells #[.bool true] 4) = w7 := ⟨_, rfl⟩
            rw [hw7]
            obtain ⟨Bx2, ρ7, hTc, h13, h14, hix, hsub, i10, i11, i12, hcel, hrow, hdf, hDlt, hlt2, hlo2⟩ := begin_rangeP (b11 := w2.heap.size) (oA := .cells #[.slice ao rn cap] 34) (oB := tnB nn) HT1.out hb3s hb2.size k11 hrow3 HTw.out HDl.out HBx.out.2 rfl rfl hw7
            have a13 := (three_boxes hw7).2.2.1
            have a14 := (three_boxes hw7).2.2.2.1
            have hs7 := (three_boxes hw7).2.2.2.2
            have hk11 := idx_lt k11
            obtain ⟨b11, b12, b13, b14, e11, e12, e13, e14⟩ : ∃ b11 b12 b13 b14, w2.heap.size = b11 ∧ w3.heap.size = b12 ∧ w3.heap.size + 1 = b13 ∧ w3.heap.size + 1 + 1 = b14 := ⟨_, _, _, _, rfl, rfl, rfl, rfl⟩
            rw [hs3] at h13 h14 a13 a14 i12 hs7 hlt2 hlo2 hk11
            obtain ⟨β, hβ⟩ : ∃ β, b12 = β + 1 := ⟨b12 - 1, by omega⟩
            have HSz : Hid (b12 = β + 1 ∧ b13 = β + 2 ∧ b14 = β + 3 ∧ w7.heap.size = β + 4 ∧ w.heap.size ≤ β ∧ ∀ e ∈ Bx2, e.1 < β + 2) := ⟨by omega, by omega, by omega, by omega, by omega, fun e he => by have := hlt2 e he; omega⟩
            have hβ2 : b11 ≤ β := by omega
            rw [e14] at h14 a14 ⊢
            rw [e13] at h13 a13 ⊢
            rw [e12] at i12 ⊢
            rw [e11] at i11 ⊢
            have HR0 : Hid (RS ρ w W most av (ts.map pp) Bx2 Dl b13 b14 ρ7 w7 0 true) := ⟨hTc, h13, h14, hdf, a13, a14⟩
            have HSq := HSeq.out ρ7 w7 l (hTc.sub hsub).st hix
            have HIn : Hid (((b10, tnB tn) ∈ Bx2 ∧ (b11, .cells #[.slice ao rn cap] 34) ∈ Bx2 ∧ (b12, tnB nn) ∈ Bx2) ∧ (∀ e ∈ Bx, e ∈ Bx2) ∧ (∀ e ∈ Bx2, e.2.isCells = true) ∧ RowIn Bx2 ao (wantOf o l) ∧ ∀ D ∈ Dl, D < w7.heap.size) := ⟨⟨i10, i11, i12⟩, hsub, hcel, hrow, hDlt⟩
            have hfresh : ∀ k, k < w7.heap.size → ρ7 k = ρ7 k := fun _ _ => rfl
            clear hw3s hs3 hb3s k11 hrow3 hk11 hz3 hb3 hbq hβ hw7 e11 e12 e13 e14 hTc h13 h14 hix hsub i10 i11 i12 hcel hrow hdf hDlt hlt2 hlo2 a13 a14 hs7 HRs HRp HRow hb2 HTw HT1
            generalize hR : wantOf o l = R at *
            have HRR : Hid (R.length = rn) := HRd.out
            clear hR HRd
            generalize hact : ({ tmps := _, defers := _ } : Act) = a0
            refine (wpIn_wide (n := 5)).1 ?_
            refine range_lab (by rw [← hact]; rfl) (enters_of Tryz.func44 (by kernel_rfl) rfl) HSq (Below.refl _ _) hfresh (fun _ => rfl)
              (RGo ρ w W most av (ts.map pp) Bx2 Dl b13 b14 nn R)
              (RLv ρ w W most av (ts.map pp) Bx2 Dl b13 b14 nn R)
              ?own ?ownx ?fr ?start
              (fun x => { tmps := (((a0.tmps.setIfInBounds 83 (.string ⟨x.1.1.toArray⟩)).setIfInBounds 84 (.int .i64 x.1.2)).setIfInBounds 15 (.string ⟨x.1.1.toArray⟩)).setIfInBounds 16 (.int .i64 x.1.2), defers := [] }) ?assign ?body ?done ?stop
            case own =>
              rintro ρ2 pre A B row ⟨at', ok, h1, h2, h3⟩ hg hr
              exact ⟨at', ok, h1.turn hg hr (by have := HSz.out; omega) HIn.out.2.2.1 HIn.out.2.2.2.2, h2, h3⟩
            case ownx =>
              rintro c ρ2 pre A B row ⟨hc, ok, h1, h2⟩ hg hr
              exact ⟨hc, ok, h1.turn hg hr (by have := HSz.out; omega) HIn.out.2.2.1 HIn.out.2.2.2.2, h2⟩
            case fr =>
              rintro ρ2 pre A ⟨at', ok, h1, _⟩
              exact h1.tc.fresh
            case start => exact ⟨0, true, HR0.out, Nat.zero_le _, fun _ => ⟨rfl, rfl⟩⟩
            case assign =>
              intro m' l' x A K2 hK2
              rw [← hact] at hK2 ⊢
              simp [encR] at hK2 ⊢
              gi_wp2
              exact hK2
            case body =>
              intro m' l' ρ2 pre x A hI hlen
              rw [← hact]
              obtain ⟨at', ok, hRS, hat, hpre⟩ := hI
              obtain ⟨kk, hkk⟩ : ∃ kk : ByteArray, (⟨x.1.1.toArray⟩ : ByteArray) = kk := ⟨_, rfl⟩
              obtain ⟨vv, hvv⟩ : ∃ vv, x.1.2 = vv := ⟨_, rfl⟩
              obtain ⟨c13, f13⟩ := hRS.c13
              obtain ⟨c14, f14⟩ := hRS.c14
              obtain ⟨_, _, c3, c0, ck, cti, cn, cf, cm⟩ := HO.out _ _ (hRS.tc.sub HIn.out.2.1)
              have c10 : A.cell? ⟨b10, 0, none⟩ = some (.int .i64 tn) := by have := (hRS.tc.st _ HIn.out.1.1).2; simp [World.cell?, this, tnB]
              have c11 : A.cell? ⟨b11, 0, none⟩ = some (.slice ao rn cap) := by have := (hRS.tc.st _ HIn.out.1.2.1).2; simp [World.cell?, this]
              have c12 : A.cell? ⟨b12, 0, none⟩ = some (.int .i64 nn) := by have := (hRS.tc.st _ HIn.out.1.2.2).2; simp [World.cell?, this, tnB]
              have hb10 : b10 < β + 2 := HSz.out.2.2.2.2.2 _ HIn.out.1.1
              have hb5 : b5 < β + 2 := HSz.out.2.2.2.2.2 _ (HIn.out.2.1 _ HBx.out.1.2.2)
              have hb3' : b3 < β + 2 := HSz.out.2.2.2.2.2 _ (HIn.out.2.1 _ HBx.out.1.1)
              obtain ⟨s12, s13, s14, s7, slo, _⟩ := HSz.out
              have hne : b13 ≠ b14 ∧ b14 ≠ b13 ∧ b10 ≠ b14 ∧ b11 ≠ b14 ∧ b12 ≠ b14 ∧ b5 ≠ b14 ∧ b3 ≠ b14 := by omega
              have hlo : w.heap.size ≤ b13 ∧ w.heap.size ≤ b14 := by omega
              have HRS : Hid (RS ρ w W most av (ts.map pp) Bx2 Dl b13 b14 ρ2 A at' ok) := hRS
              have hNn := HNn.out
              have hRR := HRR.out
              clear s12 s13 s14 s7 slo hb10 hb5 hb3' hRS
              simp only [hkk, hvv]
              by_cases hge : nn ≤ at'
              · have e1 : at' = nn := by omega
                have HLv : Hid (∀ b : Bool, (pre ++ [x] <+: R.attach → b = true) → KeepsOthers A (A.setCell ⟨b14, 0, none⟩ (.bool b)) ∧ ∃ ρ', RLv ρ w W most av (ts.map pp) Bx2 Dl b13 b14 nn R (.exit 4) ρ' (pre ++ [x]) (A.setCell ⟨b14, 0, none⟩ (.bool b))) := fun b hb => by
                  obtain ⟨h1, h2, h3⟩ := HRS.out.setOk hne.1 hlo.2 b
                  rw [e1] at h1
                  exact ⟨h3, ρ2, rfl, b, h1, hb⟩
                have HPr : Hid (pre ++ [x] <+: R.attach → ok = true ∧ at' < rn) := fun hg => by
                  have h1 := hpre ((List.prefix_append _ _).trans hg)
                  have h2 := hg.length_le
                  rw [List.length_append, List.length_attach, hRR] at h2
                  simp at h2
                  exact ⟨h1.1, by omega⟩
                have hgeI : (nn : Int) ≤ (at' : Int) := by omega
                clear hpre hat hlen
                cases ok with
                | false =>
                  gi_wp2
                  all_goals exact HLv.out false (fun hg => by have := (HPr.out hg).1; cases this)
                | true =>
                  by_cases h1 : (at' : Int) < (rn : Int)
                  · by_cases h2 : (0 : Int) ≤ o.n
                    · gi_wp2
                      all_goals exact HLv.out true (fun _ => rfl)
                    · gi_wp2
                      all_goals exact HLv.out false (fun hg => by omega)
                  · gi_wp2
                    all_goals exact HLv.out false (fun hg => by have := (HPr.out hg).2; omega)
              · have hlt' : at' < nn := by omega
                obtain ⟨e, he⟩ : ∃ e, R[at']? = some e := ⟨_, List.getElem?_eq_getElem (by omega)⟩
                obtain ⟨g, ob, hao, hgin, hgp⟩ : ∃ g ob, ao = some ⟨g, 0, none⟩ ∧ (g, ob) ∈ Bx2 ∧ ∀ w' : World, w'.heap[g]? = some ob → PairsAt w' g R := by
                  rcases HIn.out.2.2.2.1 with h0 | h
                  · rw [h0] at hRR; simp at hRR; omega
                  · exact h
                obtain ⟨cg0, cg1⟩ := hgp A (HRS.out.tc.st _ hgin).2 at' e he
                have hgne : g ≠ b14 ∧ g ≠ b13 := by have := HSz.out.2.2.2.2.2 _ hgin; have := HSz.out; omega
                have HPr : Hid (pre ++ [x] <+: R.attach → ok = true ∧ (kk.toList == (keyOf e).toList) = true ∧ vv = e.2 ∧ at' = pre.length) := fun hg => by
                  have h1 := hpre ((List.prefix_append _ _).trans hg)
                  obtain ⟨z, hz⟩ := hg
                  have h2 : R.attach[pre.length]? = some x := by rw [← hz]; simp
                  have h3 : R[pre.length]? = some x.1 := by
                    have := congrArg (Option.map (·.1)) h2
                    rw [← List.getElem?_map, List.attach_map_subtype_val] at this
                    exact this
                  rw [← h1.2, he] at h3
                  cases h3
                  refine ⟨h1.1, ?_, hvv.symm, h1.2⟩
                  rw [← hkk]
                  exact beq_self_eq_true _
                have HGo : Hid (∀ ok1 : Bool, (pre ++ [x] <+: R.attach → ok1 = true) → KeepsOthers A ((A.setCell ⟨b14, 0, none⟩ (.bool ok1)).setCell ⟨b13, 0, none⟩ (.int .i64 ((at' : Int) + 1))) ∧ ∃ ρ', Lab ρ2 A ρ' ((A.setCell ⟨b14, 0, none⟩ (.bool ok1)).setCell ⟨b13, 0, none⟩ (.int .i64 ((at' : Int) + 1))) ∧ RGo ρ w W most av (ts.map pp) Bx2 Dl b13 b14 nn R ρ' (pre ++ [x]) ((A.setCell ⟨b14, 0, none⟩ (.bool ok1)).setCell ⟨b13, 0, none⟩ (.int .i64 ((at' : Int) + 1)))) := fun ok1 hok => by
                  obtain ⟨h1, h2, h3⟩ := HRS.out.setOk hne.1 hlo.2 ok1
                  obtain ⟨h4, h5, h6⟩ := h1.setAt hne.1 hlo.1 (at' + 1)
                  rw [show ((at' + 1 : Nat) : Int) = (at' : Int) + 1 by omega] at h4 h5 h6
                  exact ⟨h3.trans h6, ρ2, h2.trans h5, at' + 1, ok1, h4, by omega, fun hg => ⟨hok hg, by rw [(HPr.out hg).2.2.2]; simp⟩⟩
                have HR1 : Hid (RS ρ w W most av (ts.map pp) Bx2 Dl b13 b14 ρ2 (A.setCell ⟨b14, 0, none⟩ (.bool true)) at' true ∧ Lab ρ2 A ρ2 (A.setCell ⟨b14, 0, none⟩ (.bool true)) ∧ KeepsOthers A (A.setCell ⟨b14, 0, none⟩ (.bool true))) := HRS.out.setOk hne.1 hlo.2 true
                have hgeI : ¬ (nn : Int) ≤ (at' : Int) := by omega
                have hatI : (0 : Int) ≤ (at' : Int) ∧ (at' : Int) < 3000 := by omega
                have hrnI : (at' : Int) < (rn : Int) := by omega
                subst hao
                have hat3 : at' < 3000 := by omega
                clear hpre he hgp hgin hlen hge hRR hNn hvv hkk
                cases ok with
                | false =>
                  by_cases hm : (at' : Int) < (ms.length : Int)
                  · gi_wp2
                    all_goals exact HGo.out false (fun hg => by have := (HPr.out hg).1; cases this)
                  · gi_wp2
                    all_goals exact HGo.out false (fun hg => by have := (HPr.out hg).1; cases this)
                | true =>
                  cases hq : (kk.toList == (keyOf e).toList) with
                  | false =>
                    by_cases hm : (at' : Int) < (ms.length : Int)
                    · gi_wp2
                      all_goals exact HGo.out false (fun hg => by have := (HPr.out hg).2.1; rw [hq] at this; cases this)
                    · gi_wp2
                      all_goals exact HGo.out false (fun hg => by have := (HPr.out hg).2.1; rw [hq] at this; cases this)
                  | true =>
                    by_cases hv : vv = e.2
                    · by_cases hm : (at' : Int) < (ms.length : Int)
                      · by_cases ht0 : tn = 0
                        · subst ht0
                          obtain ⟨o', ho'⟩ : ∃ o', ms[at']? = some o' := ⟨_, List.getElem?_eq_getElem (by omega)⟩
                          obtain ⟨hma, hcs⟩ := HMC.out at' o' ho'
                          have HGo2 : Hid (∀ ρ3 B, RS ρ w W most av (ts.map pp) Bx2 Dl b13 b14 ρ3 B at' true → Lab ρ2 A ρ3 B → KeepsOthers A B → KeepsOthers A ((B.setCell ⟨b14, 0, none⟩ (.bool true)).setCell ⟨b13, 0, none⟩ (.int .i64 ((at' : Int) + 1))) ∧ ∃ ρ', Lab ρ2 A ρ' ((B.setCell ⟨b14, 0, none⟩ (.bool true)).setCell ⟨b13, 0, none⟩ (.int .i64 ((at' : Int) + 1))) ∧ RGo ρ w W most av (ts.map pp) Bx2 Dl b13 b14 nn R ρ' (pre ++ [x]) ((B.setCell ⟨b14, 0, none⟩ (.bool true)).setCell ⟨b13, 0, none⟩ (.int .i64 ((at' : Int) + 1)))) := fun ρ3 B hB hL hK => by
                            obtain ⟨h1, h2, h3⟩ := hB.setOk hne.1 hlo.2 true
                            obtain ⟨h4, h5, h6⟩ := h1.setAt hne.1 hlo.1 (at' + 1)
                            rw [show ((at' + 1 : Nat) : Int) = (at' : Int) + 1 by omega] at h4 h5 h6
                            exact ⟨(hK.trans h3).trans h6, ρ3, (hL.trans h2).trans h5, at' + 1, true, h4, by omega, fun hg => ⟨rfl, by rw [(HPr.out hg).2.2.2]; simp⟩⟩
                          have HP : Hid (Calls Tryz.prog 22 #[.pointer (some ⟨W, 0, none⟩), .agg #[.int .i64 o'.kind, .int .i64 o'.on, .int .i64 o'.other, .string o'.key, .string o'.till, .int .i64 o'.n, .slice o'.pa o'.pl o'.pc, .slice o'.fa o'.fl o'.fc, .slice o'.ma o'.ml o'.mc]] (A.setCell ⟨b14, 0, none⟩ (.bool true)).drew fun e B => e = .returned (.bool true) ∧ Hid (∃ ρ3, RS ρ w W most av (ts.map pp) Bx2 Dl b13 b14 ρ3 B at' true ∧ Lab ρ2 A ρ3 B ∧ KeepsOthers A B)) := by
                            have hd : Below (A.setCell ⟨b14, 0, none⟩ (.bool true)).heap.size (A.setCell ⟨b14, 0, none⟩ (.bool true)) (A.setCell ⟨b14, 0, none⟩ (.bool true)).drew := (Below.refl _ _).drew
                            have hR1 := HR1.out.1.on hd
                            refine (HPl.out o' (List.mem_append.mpr (.inr (List.mem_of_getElem? ho'))) Bx2 ρ2 _ hR1.tc).mono ?_
                            rintro e B ⟨he, ρ3, h1, h2⟩
                            exact ⟨he, ρ3, hR1.plain h1 h2, (HR1.out.2.1.trans (Lab.below hd)).trans (h2.lab nz0), (HR1.out.2.2.trans (KeepsOthers.drew _)).trans h2.keeps⟩
                          obtain ⟨_, _, c3', _, _, _, _, _, cm'⟩ := HO.out _ _ (HR1.out.1.tc.sub HIn.out.2.1)
                          obtain ⟨c13', _⟩ := HR1.out.1.c13
                          obtain ⟨q0, q1, q2, q3, q4, q5, q6, q7, q8⟩ := hcs.on (n := 0) (HBel.out _ _ (HR1.out.1.tc.sub HIn.out.2.1))
                          subst hma
                          have hmI : (at' : Int) < (ms.length : Int) := by omega
                          clear hcs ho' HR1 HGo
                          gi_wp2
                          refine wpIn_region_any (by kernel_rfl) ?_
                          change wpAnyIn _ _ _ _ _ _ 8 _ _ (World.drew _)
                          generalize hA1 : A.setCell ⟨b14, 0, none⟩ (.bool true) = A1 at *
                          generalize hops : (#[_, _, _, _, _, _, _, _] : Array Oper) = ops
                          have hsil : Silent ops 6 := by rw [← hops]; exact silent_of (by kernel_rfl)
                          have hosz : ops.size = 8 := by rw [← hops]; rfl
                          obtain ⟨V, hV⟩ : ∃ V : Nat → Value, V = fun i => ([.pointer (some ⟨W, 0, none⟩), .pointer (some ⟨b5, 8, none⟩), .slice (some ⟨mk, mp, none⟩) ms.length mcap, .int .i64 at', .pointer (some ⟨mk, mp + at' * 9, none⟩), .agg #[.int .i64 o'.kind, .int .i64 o'.on, .int .i64 o'.other, .string o'.key, .string o'.till, .int .i64 o'.n, .slice o'.pa o'.pl o'.pc, .slice o'.fa o'.fl o'.fc, .slice o'.ma o'.ml o'.mc]] : List Value).getD i undef := ⟨_, rfl⟩
                          have hdst : ∀ j, j < 6 → dstOf ops j = some (131 + j) := by
                            intro j hj
                            have : j = 0 ∨ j = 1 ∨ j = 2 ∨ j = 3 ∨ j = 4 ∨ j = 5 := by omega
                            rw [← hops]
                            rcases this with rfl | rfl | rfl | rfl | rfl | rfl <;> rfl
                          have hun : unl 6 (Array.replicate 8 false) = [0, 1, 2, 3, 4, 5] := by kernel_rfl
                          rw [hosz]
                          generalize hact2 : ({ tmps := _, defers := _ } : Act) = a2
                          obtain ⟨aAll, haAll⟩ : ∃ aAll, putAll ops V [0, 1, 2, 3, 4, 5] a2 = aAll := ⟨_, rfl⟩
                          have haA := haAll
                          rw [← hact2] at haA
                          simp only [putAll, List.foldl, hdst 0 (by decide), hdst 1 (by decide), hdst 2 (by decide), hdst 3 (by decide), hdst 4 (by decide), hdst 5 (by decide), Act.put, hV] at haA
                          simp at haA
                          refine silent_walkR (V := V) hsil aAll 2 ?hop ?hrest 6 _ _ (by simp [hosz]) (by rw [hun]; rfl) (by rw [hun]; exact haAll) ?hno ?hcl
                          case hno => intro i h1 h2; rw [hosz] at h2; simp [h2]
                          case hcl =>
                            intro i j h1
                            exfalso
                            rw [Array.getD_eq_getD_getElem?, Array.getElem?_replicate] at h1
                            split at h1 <;> simp at h1
                          case hop =>
                            rw [← haA]
                            intro i hi o2 ho2
                            have : i = 0 ∨ i = 1 ∨ i = 2 ∨ i = 3 ∨ i = 4 ∨ i = 5 := by omega
                            rw [← hops] at ho2
                            rcases this with rfl | rfl | rfl | rfl | rfl | rfl
                            all_goals (cases ho2; rw [← hops])
                            all_goals (refine quietly_round rfl (by intro c h; cases h) ⟨by rfl, ?_, ?_⟩)
                            all_goals (first | rfl | (simp [hV, go_sem, c3', cm', c13', q0, q1, q2, q3, q4, q5, q6, q7, q8, hmI]; done) | skip)
                          case hrest =>
                            have hup : upTo' ops 6 = #[true, true, true, true, true, true, false, false] := by rw [← hops]; kernel_rfl
                            rw [hup]
                            clear haAll hact2 hup hun hdst hsil hosz hV
                            subst haA
                            subst hops
                            refine wpAnyIn_all (rs := [6]) (by kernel_rfl) (by simp) ?_
                            intro i hi
                            obtain rfl := List.mem_singleton.1 hi
                            refine wpOpIn_step rfl ?_
                            intro K2 hK2
                            go_simp
                            refine ⟨trivial, (fun h => by cases h), (CallsIn.inRound l' (callsIn_wide.2 HP.out)).mono ?_⟩
                            rintro e2 B ⟨rfl, HB⟩
                            obtain ⟨ρ3, hB1, hB2, hB3⟩ := HB.out
                            have HB4 : Hid (RS ρ w W most av (ts.map pp) Bx2 Dl b13 b14 ρ3 B at' true ∧ Lab ρ2 A ρ3 B ∧ KeepsOthers A B) := ⟨hB1, hB2, hB3⟩
                            obtain ⟨d13, g13⟩ := hB1.c13
                            obtain ⟨d14, g14⟩ := hB1.c14
                            clear hB1 hB2 hB3 HB HP c3' cm' c13' q0 q1 q2 q3 q4 q5 q6 q7 q8
                            refine hK2 _ _ ?_
                            refine wpAnyIn_all (rs := [7]) (by kernel_rfl) (by simp) ?_
                            intro i hi
                            obtain rfl := List.mem_singleton.1 hi
                            refine wpOpIn_step rfl ?_
                            intro K3 hK3
                            go_simp
                            refine hK3 _ _ ?_
                            refine wpAnyIn_done (by kernel_rfl) ?_ _
                            gi_wp2
                            exact HGo2.out ρ3 B HB4.out.1 HB4.out.2.1 HB4.out.2.2
                        · have htI0 : ¬ (tn : Int) = 0 := by omega
                          gi_wp2
                          all_goals exact HGo.out true (fun _ => rfl)
                      · gi_wp2
                        all_goals exact HGo.out true (fun _ => rfl)
                    · have hvb : (vv == e.2) = false := by simp [hv]
                      by_cases hm : (at' : Int) < (ms.length : Int)
                      · gi_wp2
                        all_goals exact HGo.out false (fun hg => absurd (HPr.out hg).2.2.1 hv)
                      · gi_wp2
                        all_goals exact HGo.out false (fun hg => absurd (HPr.out hg).2.2.1 hv)
            case done =>
              rintro D ys ρ2 A hD rfl hI hK
              rw [← hact]
              obtain ⟨at', ok, hRS, hat, hpre⟩ := hI
              obtain ⟨rfl, h2⟩ := hpre (List.prefix_refl _)
              rw [List.length_attach, HRR.out] at h2
              have e1 : at' = nn := by have := HNn.out; omega
              subst e1
              have HEnd : Hid (RS ρ w W most av (ts.map pp) Bx2 Dl b13 b14 ρ2 A at' true ∧ A.heap[D]? = some (.deferred (some [])) ∧ w7.heap.size ≤ D) := ⟨hRS, hK, hD⟩
              clear hRS hK hat hpre h2 hD
              obtain ⟨c13, _⟩ := HEnd.out.1.c13
              obtain ⟨c14, _⟩ := HEnd.out.1.c14
              have c12 : A.cell? ⟨b12, 0, none⟩ = some (.int .i64 at') := by have := (HEnd.out.1.tc.st _ HIn.out.1.2.2).2; simp [World.cell?, this, tnB]
              have c10 : A.cell? ⟨b10, 0, none⟩ = some (.int .i64 tn) := by have := (HEnd.out.1.tc.st _ HIn.out.1.1).2; simp [World.cell?, this, tnB]
              go_wp2_with fail
              have etn : tnB (tn + 1) = .cells #[.int .i64 ((tn : Int) + 1)] 3 := by unfold tnB; rw [show ((tn + 1 : Nat) : Int) = (tn : Int) + 1 by omega]
              have hba : Below A.heap.size A (A.alloc (.cells #[.int .i64 ((tn : Int) + 1)] 3)) := below_alloc _ _
              refine Handed.intro (gk - 1) (by omega) (hJ _ _ _ ⟨D :: Dl, A.heap.size, tn + 1, ⟨⟨by omega, by omega⟩, ⟨ρ2, (HEnd.out.1.tc.sub HIn.out.2.1).add hba (Nat.le_refl _) (by rw [etn]; exact heap_alloc_new _ _)⟩, ⟨fun D' hD' => ?_, List.nodup_cons.mpr ⟨fun hm => ?_, HEnd.out.1.df.2⟩⟩⟩, Frm.of _ rfl rfl⟩)
              · rcases List.mem_cons.mp hD' with rfl | hD'
                · exact ⟨by have := HEnd.out.2.2; have := HSz.out; omega, (hba.block _ (idx_lt HEnd.out.2.1)).trans HEnd.out.2.1⟩
                · exact (HEnd.out.1.df.on hba).1 D' hD'
              · have := HIn.out.2.2.2.2 D hm
                have := HEnd.out.2.2
                omega
            case stop =>
              intro D c pre ρ2 A hD hsp hX hK
              rw [← hact]
              obtain ⟨rfl, ok, hRS, hok⟩ := hX
              obtain rfl := hok hsp
              have HEnd : Hid (RS ρ w W most av (ts.map pp) Bx2 Dl b13 b14 ρ2 A nn true ∧ A.heap[D]? = some (.deferred (some [])) ∧ w7.heap.size ≤ D) := ⟨hRS, hK, hD⟩
              clear hRS hK hD hok hsp
              obtain ⟨c13, _⟩ := HEnd.out.1.c13
              obtain ⟨c14, _⟩ := HEnd.out.1.c14
              have c12 : A.cell? ⟨b12, 0, none⟩ = some (.int .i64 nn) := by have := (HEnd.out.1.tc.st _ HIn.out.1.2.2).2; simp [World.cell?, this, tnB]
              have c10 : A.cell? ⟨b10, 0, none⟩ = some (.int .i64 tn) := by have := (HEnd.out.1.tc.st _ HIn.out.1.1).2; simp [World.cell?, this, tnB]
              refine wpIn_wide.2 ?_
              go_wp2_with fail
              have etn : tnB (tn + 1) = .cells #[.int .i64 ((tn : Int) + 1)] 3 := by unfold tnB; rw [show ((tn + 1 : Nat) : Int) = (tn : Int) + 1 by omega]
              have hba : Below A.heap.size A (A.alloc (.cells #[.int .i64 ((tn : Int) + 1)] 3)) := below_alloc _ _
              refine Handed.intro (gk - 1) (by omega) (hJ _ _ _ ⟨D :: Dl, A.heap.size, tn + 1, ⟨⟨by omega, by omega⟩, ⟨ρ2, (HEnd.out.1.tc.sub HIn.out.2.1).add hba (Nat.le_refl _) (by rw [etn]; exact heap_alloc_new _ _)⟩, ⟨fun D' hD' => ?_, List.nodup_cons.mpr ⟨fun hm => ?_, HEnd.out.1.df.2⟩⟩⟩, Frm.of _ rfl rfl⟩)
              · rcases List.mem_cons.mp hD' with rfl | hD'
                · exact ⟨by have := HEnd.out.2.2; have := HSz.out; omega, (hba.block _ (idx_lt HEnd.out.2.1)).trans HEnd.out.2.1⟩
                · exact (HEnd.out.1.df.on hba).1 D' hD'
              · have := HIn.out.2.2.2.2 D hm
                have := HEnd.out.2.2
                omega
        · have htI : ¬ (tn : Int) < 2 := by omega
          go_wp2_with fail
          show LeavesInM _ _ _ _ _ _ _ _ _
          refine leaves_all (w := w) (Good := fun w1 => ∃ ρ1, Tc ρ w W most av (ts.map pp) Bx ρ1 w1) ?_ ?_ Dl wr' ⟨ρ1, (HTx.out _ _ HT1.out).1⟩ HDl.out
          · rintro D w1 ⟨ρ2, h1⟩ h2 h3
            exact ⟨ρ2, h1.turn (grownBy_putObj' w1 D _) (fun r e => by cases e; exact ⟨h2, _, h3, rfl⟩) HBx.out.2⟩
          · rintro w1 ⟨ρ2, h1⟩
            have HAf : Hid (After ρ w W most av (ts.map pp) w1) := h1.after
            refine ⟨.bool true, ?_, rfl, HAf.out⟩
            simp [results, Tryz.f15, go_sem]

end Go.Proofs.YtcgjppacnhmjlaaGreat
