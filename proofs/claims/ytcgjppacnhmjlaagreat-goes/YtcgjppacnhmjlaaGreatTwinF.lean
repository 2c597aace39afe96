/- plain and step: one step of a script on one of the indexes. -/
import Derived.Test.YtcgjppacnhmjlaaGreatTwinE
set_option linter.unusedVariables false
set_option linter.unusedSimpArgs false
namespace Go.Proofs.YtcgjppacnhmjlaaGreat
open Go.RowKit
attribute [local go_sem ↓] Go.wp_at_zero Go.wp_at_succ

/-- A step: its fields. -/
structure OpD where
  kind : Int
  on : Int
  other : Int
  key : ByteArray
  till : ByteArray
  n : Int
  pa : Option Addr
  pl : Nat
  pc : Nat
  fa : Option Addr
  fl : Nat
  fc : Nat
  ma : Option Addr
  ml : Nat
  mc : Nat
def opV (o : OpD) : Value := .agg #[.int .i64 o.kind, .int .i64 o.on, .int .i64 o.other, .string o.key, .string o.till, .int .i64 o.n, .slice o.pa o.pl o.pc, .slice o.fa o.fl o.fc, .slice o.ma o.ml o.mc]
def opB (o : OpD) : Obj := .cells #[.int .i64 o.kind, .int .i64 o.on, .int .i64 o.other, .string o.key, .string o.till, .int .i64 o.n, .slice o.pa o.pl o.pc, .slice o.fa o.fl o.fc, .slice o.ma o.ml o.mc] 39
theorem opB_cells {w : World} {b : Nat} {o : OpD} (h : w.heap[b]? = some (opB o)) : w.cell? ⟨b, 0, none⟩ = some (.int .i64 o.kind) ∧ w.cell? ⟨b, 1, none⟩ = some (.int .i64 o.on) ∧ w.cell? ⟨b, 2, none⟩ = some (.int .i64 o.other) ∧ w.cell? ⟨b, 3, none⟩ = some (.string o.key) ∧ w.cell? ⟨b, 4, none⟩ = some (.string o.till) ∧ w.cell? ⟨b, 5, none⟩ = some (.int .i64 o.n) ∧ w.cell? ⟨b, 6, none⟩ = some (.slice o.pa o.pl o.pc) ∧ w.cell? ⟨b, 7, none⟩ = some (.slice o.fa o.fl o.fc) ∧ w.cell? ⟨b, 8, none⟩ = some (.slice o.ma o.ml o.mc) := by
  simp [World.cell?, h, opB]
theorem twB_cells {w : World} {b x r : Nat} (h : w.heap[b]? = some (twB x r)) : w.cell? ⟨b, 0, none⟩ = some (.pointer (some ⟨x, 0, none⟩)) ∧ w.cell? ⟨b, 1, none⟩ = some (.pointer (some ⟨r, 0, none⟩)) := by
  simp [World.cell?, h, twB]

/-- An index and the document's. -/
def pp (t : Nat × Nat × List KV) : Nat × Nat := (t.1, t.2.1)
theorem pp_set : ∀ (ts : TS) (i : Nat) (t : Nat × Nat × List KV) (l' : List KV), ts[i]? = some t → (ts.set i (t.1, t.2.1, l')).map pp = ts.map pp
  | [], i, t, l', h => by simp at h
  | a :: ts, 0, t, l', h => by simp at h; subst h; simp [pp]
  | a :: ts, i + 1, t, l', h => by simpa using pp_set ts i t l' (by simpa using h)
/-- What a step leaves. -/
def After (ρ : Nat → Nat) (w : World) (W : Nat) (most : Int) (av : Value) (ps : List (Nat × Nat)) (w' : World) : Prop := ∃ ρ' ts', Moved NZ ρ w ρ' w' ∧ Wd ρ' w' W most av ts' ∧ ts'.map pp = ps
theorem After.of_below {ρ : Nat → Nat} {w w' : World} {W : Nat} {most : Int} {av : Value} {ts : TS} (h : Wd ρ w W most av ts) (hb : Below w.heap.size w w') : After ρ w W most av (ts.map pp) w' :=
  ⟨ρ, ts, Moved.of_below h.fresh hb, h.on hb, rfl⟩
theorem After.of_set {ρ ρ' : Nat → Nat} {w w1 w' : World} {W : Nat} {most : Int} {av : Value} {ts : TS} (h : Wd ρ w W most av ts) (hb : Below w.heap.size w w1) {j : Nat} {t : Nat × Nat × List KV} {l' : List KV} (hj : ts[j]? = some t) (hm : Moved (Part j) ρ w1 ρ' w') (ht : Twin ρ' j w' t.1 t.2.1 l') : After ρ w W most av (ts.map pp) w' :=
  ⟨ρ', _, (Moved.of_below h.fresh hb).trans (hm.nz (h.lt hj).2), (h.on hb).set hj hm ht, pp_set ts j t l' hj⟩
theorem After.pre {ρ : Nat → Nat} {w w1 w' : World} {W : Nat} {most : Int} {av : Value} {ps : List (Nat × Nat)} (hf : ∀ k, w.heap.size ≤ k → ρ k = 0) (hb : Below w.heap.size w w1) (h : After ρ w1 W most av ps w') : After ρ w W most av ps w' := by
  obtain ⟨ρ', ts', hm, hW, hl⟩ := h
  exact ⟨ρ', ts', (Moved.of_below hf hb).trans hm, hW, hl⟩

theorem pre_cells {ρ : Nat → Nat} {w : World} {W : Nat} {most : Int} {av : Value} {ts : TS} (h : Wd ρ w W most av ts) (hne : 0 < ts.length) : ∃ g cap, av = .slice (some ⟨g, 0, none⟩) ts.length cap ∧ ts.length ≤ cap ∧ ∀ w1, Below w.heap.size w w1 → w1.cell? ⟨W, 0, none⟩ = some (.slice (some ⟨g, 0, none⟩) ts.length cap) ∧ w1.cell? ⟨W, 1, none⟩ = some (.int .i64 most) ∧ ∀ (j : Nat) t, ts[j]? = some t → w1.cell? ⟨g, j * 2, none⟩ = some (.pointer (some ⟨t.1, 0, none⟩)) ∧ w1.cell? ⟨g, j * 2 + 1, none⟩ = some (.pointer (some ⟨t.2.1, 0, none⟩)) := by
  obtain ⟨g, cap, rfl, hcap, hg, hrow⟩ := h.at hne
  exact ⟨g, cap, rfl, hcap, fun w1 hb => ⟨cell_later hb h.cellL, cell_later hb h.cellM, fun j t hj => ⟨cell_later hb (hrow j t hj).1, cell_later hb (hrow j t hj).2⟩⟩⟩

set_option maxRecDepth 100000 in
set_option maxHeartbeats 2000000 in
theorem plain_any {ρ : Nat → Nat} {w : World} {W : Nat} {most : Int} {av : Value} {ts : TS} {o : OpD} (h : Wd ρ w W most av ts) (hne : 0 < ts.length) (hm : most < 10) (hon : -9223372036854775808 ≤ o.on ∧ o.on ≤ 9223372036854775807) (hkey : o.key.size ≤ 9223372036854775807) :
    Calls Tryz.prog 22 #[.pointer (some ⟨W, 0, none⟩), opV o] w fun e w' => e = .returned (.bool true) ∧ After ρ w W most av (ts.map pp) w' := by
  have HPut : Hid (∀ w1 j (t : Nat × Nat × List KV), Below w.heap.size w w1 → ts[j]? = some t → Calls Tryz.prog 16 #[.agg #[.pointer (some ⟨t.1, 0, none⟩), .pointer (some ⟨t.2.1, 0, none⟩)], .string o.key, .int .i64 o.n] w1 fun e w' => e = .returned (.bool true) ∧ After ρ w W most av (ts.map pp) w') := fun w1 j t hb hj =>
    (tput_any ((h.on hb).tw j t hj) (h.on hb).fresh hkey).mono fun e w' he => by
      obtain ⟨h1, ρ', h2, h3⟩ := he
      exact ⟨h1, After.of_set h hb hj h2 h3⟩
  have HGone : Hid (∀ w1 j (t : Nat × Nat × List KV), Below w.heap.size w w1 → ts[j]? = some t → Calls Tryz.prog 37 #[.agg #[.pointer (some ⟨t.1, 0, none⟩), .pointer (some ⟨t.2.1, 0, none⟩)], .string o.key] w1 fun e w' => e = .returned (.bool true) ∧ After ρ w W most av (ts.map pp) w') := fun w1 j t hb hj =>
    (tgone_any ((h.on hb).tw j t hj) (h.on hb).fresh hkey).mono fun e w' he => by
      obtain ⟨h1, ρ', l', h2, h3⟩ := he
      exact ⟨h1, After.of_set h hb hj h2 h3⟩
  have HGet : Hid (∀ w1 j (t : Nat × Nat × List KV), Below w.heap.size w w1 → ts[j]? = some t → Calls Tryz.prog 13 #[.agg #[.pointer (some ⟨t.1, 0, none⟩), .pointer (some ⟨t.2.1, 0, none⟩)], .string o.key] w1 fun e w' => e = .returned (.bool true) ∧ After ρ w W most av (ts.map pp) w') := fun w1 j t hb hj =>
    (tget_any ((h.on hb).tw j t hj) (h.on hb).fresh hkey).mono fun e w' he => ⟨he.1, After.of_below h (hb.trans (he.2.mono hb.size))⟩
  have HShaped : Hid (∀ w1 j (t : Nat × Nat × List KV), Below w.heap.size w w1 → ts[j]? = some t → Calls Tryz.prog 14 #[.agg #[.pointer (some ⟨t.1, 0, none⟩), .pointer (some ⟨t.2.1, 0, none⟩)]] w1 fun e w' => e = .returned (.bool true) ∧ After ρ w W most av (ts.map pp) w') := fun w1 j t hb hj =>
    (tshaped_any ((h.on hb).tw j t hj) (h.on hb).fresh).mono fun e w' he => ⟨he.1, After.of_below h (hb.trans (he.2.mono hb.size))⟩
  have HNone : Hid (∀ w1, Below w.heap.size w w1 → After ρ w W most av (ts.map pp) w1) := fun w1 hb => After.of_below h hb
  have h8 := h.few
  obtain ⟨g, cap, rfl, hcap, hcells⟩ := pre_cells h hne
  have HC : Hid (∀ w1, Below w.heap.size w w1 → w1.cell? ⟨W, 0, none⟩ = some (.slice (some ⟨g, 0, none⟩) ts.length cap) ∧ w1.cell? ⟨W, 1, none⟩ = some (.int .i64 most) ∧ ∀ (j : Nat) t, ts[j]? = some t → w1.cell? ⟨g, j * 2, none⟩ = some (.pointer (some ⟨t.1, 0, none⟩)) ∧ w1.cell? ⟨g, j * 2 + 1, none⟩ = some (.pointer (some ⟨t.2.1, 0, none⟩))) := hcells
  have HB1 : Hid (∀ ob, Below w.heap.size w (w.alloc ob)) := fun ob => below_alloc w ob
  have HB2 : Hid (∀ ob ob', Below w.heap.size w ((w.alloc ob).alloc ob')) := fun ob ob' => (HB1.out ob).alloc (HB1.out ob).size _
  have HPick : Hid (∀ w1, Calls Tryz.prog 19 #[.int .i64 o.on, .int .i64 ts.length] w1 fun e w' => (∃ j : Nat, j < ts.length ∧ e = .returned (.int .i64 j)) ∧ w' = w1) := fun w1 => pick_any o.on ts.length w1 hne h8 hon
  have hWlt := idx_lt h.blk
  obtain ⟨xo, ro, hxr⟩ : ∃ xo ro : Nat → Nat, ∀ j, j < ts.length → ∃ t, ts[j]? = some t ∧ xo j = t.1 ∧ ro j = t.2.1 := ⟨fun j => ((ts[j]?).getD (0, 0, [])).1, fun j => ((ts[j]?).getD (0, 0, [])).2.1, fun j hj => ⟨_, List.getElem?_eq_getElem hj, by simp [hj], by simp [hj]⟩⟩
  have HX : Hid (∀ w1, Below w.heap.size w w1 → ∀ j, j < ts.length → w1.cell? ⟨g, j * 2, none⟩ = some (.pointer (some ⟨xo j, 0, none⟩)) ∧ w1.cell? ⟨g, j * 2 + 1, none⟩ = some (.pointer (some ⟨ro j, 0, none⟩))) := fun w1 hb j hj => by
    obtain ⟨t, ht, e1, e2⟩ := hxr j hj
    rw [e1, e2]
    exact (hcells w1 hb).2.2 j t ht
  have HXR : Hid (∀ j, j < ts.length → ∃ t, ts[j]? = some t ∧ xo j = t.1 ∧ ro j = t.2.1) := hxr
  clear h hcells hxr
  have p1 := fun ob => (HC.out _ (HB1.out ob)).1
  have p2 := fun ob ob' => (HC.out _ (HB2.out ob ob')).1
  have o2 : ∀ ob', ((w.alloc (opB o)).alloc ob').cell? ⟨w.heap.size, 1, none⟩ = some (.int .i64 o.on) := fun ob' => (opB_cells (old_new w (opB o) ob')).2.1
  have o1 : (w.alloc (opB o)).cell? ⟨w.heap.size, 1, none⟩ = some (.int .i64 o.on) := (opB_cells (heap_alloc_new w (opB o))).2.1
  have ebox : ∀ (w1 : World), w1.alloc (.cells #[.int .i64 o.kind, .int .i64 o.on, .int .i64 o.other, .string o.key, .string o.till, .int .i64 o.n, .slice o.pa o.pl o.pc, .slice o.fa o.fl o.fc, .slice o.ma o.ml o.mc] 39) = w1.alloc (opB o) := fun w1 => rfl
  unfold opV
  go_enter Tryz.func22, Tryz.ntmps22
  go_wp2_with fail
  go_cut [5] (fun s wx => ∃ (b j : Nat) (t : Nat × Nat × List KV), s = .pointer (some ⟨b, 0, none⟩) ∧ ts[j]? = some t ∧ Hid (Below w.heap.size w wx) ∧ wx.heap[w.heap.size]? = some (opB o) ∧ wx.heap[b]? = some (twB t.1 t.2.1))
  case first =>
    have hS : (fun w' : World => w'.cell? ⟨W, 0, none⟩ = some (.slice (some ⟨g, 0, none⟩) ts.length cap) ∧ w'.cell? ⟨w.heap.size, 1, none⟩ = some (.int .i64 o.on) ∧ ∀ j, j < ts.length → w'.cell? ⟨g, j * 2, none⟩ = some (.pointer (some ⟨xo j, 0, none⟩)) ∧ w'.cell? ⟨g, j * 2 + 1, none⟩ = some (.pointer (some ⟨ro j, 0, none⟩))) ((w.alloc (opB o)).drew) := ⟨p1 _, o1, fun j hj => HX.out _ (HB1.out _) j hj⟩
    have hS2 : ∀ ob', (fun w' : World => w'.cell? ⟨W, 0, none⟩ = some (.slice (some ⟨g, 0, none⟩) ts.length cap) ∧ w'.cell? ⟨w.heap.size, 1, none⟩ = some (.int .i64 o.on) ∧ ∀ j, j < ts.length → w'.cell? ⟨g, j * 2, none⟩ = some (.pointer (some ⟨xo j, 0, none⟩)) ∧ w'.cell? ⟨g, j * 2 + 1, none⟩ = some (.pointer (some ⟨ro j, 0, none⟩))) (((w.alloc (opB o)).alloc ob').drew) := fun ob' => ⟨p2 _ _, o2 _, fun j hj => HX.out _ (HB2.out _ _) j hj⟩
    go_region_held3 (fun w' => w'.cell? ⟨W, 0, none⟩ = some (.slice (some ⟨g, 0, none⟩) ts.length cap) ∧ w'.cell? ⟨w.heap.size, 1, none⟩ = some (.int .i64 o.on) ∧ ∀ j, j < ts.length → w'.cell? ⟨g, j * 2, none⟩ = some (.pointer (some ⟨xo j, 0, none⟩)) ∧ w'.cell? ⟨g, j * 2 + 1, none⟩ = some (.pointer (some ⟨ro j, 0, none⟩))) (first | exact hS | exact hS2 _ | go_keep) ((go_at_call 19; refine (HPick.out _).mono ?_; rintro e w' ⟨⟨j, hj, rfl⟩, rfl⟩; have hjI : (j : Int) < (ts.length : Int) := (by omega)))
    all_goals (go_wp2_with fail; go_meet)
    all_goals (obtain ⟨t, ht, e1, e2⟩ := HXR.out j hj; exact ⟨_, j, t, rfl, ht, (HB2.out _ _).drew, old_new w _ _, by rw [← e1, ← e2]; exact new_new w _ _⟩)
  case rest =>
    obtain ⟨b, j, t, rfl, ht, HB, hop, htw⟩ := hcut
    obtain ⟨o0, _, _, o3, _, o5, o6, _, _⟩ := opB_cells hop
    obtain ⟨d0, d1⟩ := twB_cells htw
    have m1 := (HC.out _ HB.out).2.1
    clear p1 p2 o1 o2 hop htw
    go_wp2_with (first
      | (go_at_call 16; refine (HPut.out _ j t HB.out ht).mono ?_; rintro e w5 ⟨rfl, haft⟩)
      | (go_at_call 13; refine (HGet.out _ j t HB.out ht).mono ?_; rintro e w5 ⟨rfl, haft⟩)
      | (go_at_call 37; refine (HGone.out _ j t HB.out ht).mono ?_; rintro e w5 ⟨rfl, haft⟩)
      | (go_at_call 14; refine (HShaped.out _ j t HB.out ht).mono ?_; rintro e w5 ⟨rfl, haft⟩))
    all_goals go_ret
    all_goals first
      | exact ⟨rfl, haft⟩
      | exact ⟨rfl, HNone.out _ HB.out⟩

set_option maxRecDepth 100000 in
set_option maxHeartbeats 2000000 in
theorem step_any {ρ : Nat → Nat} {w : World} {W : Nat} {most : Int} {av : Value} {ts : TS} {o : OpD} (h : Wd ρ w W most av ts) (hne : 0 < ts.length) (hm : most < 10) (hk5 : o.kind < 6) (hon : -9223372036854775808 ≤ o.on ∧ o.on ≤ 9223372036854775807) (hkey : o.key.size ≤ 9223372036854775807) :
    Calls Tryz.prog 11 #[.pointer (some ⟨W, 0, none⟩), opV o] w fun e w' => e = .returned (.bool true) ∧ After ρ w W most av (ts.map pp) w' := by
  have HPlain : Hid (∀ w1, Below w.heap.size w w1 → Calls Tryz.prog 22 #[.pointer (some ⟨W, 0, none⟩), .agg #[.int .i64 o.kind, .int .i64 o.on, .int .i64 o.other, .string o.key, .string o.till, .int .i64 o.n, .slice o.pa o.pl o.pc, .slice o.fa o.fl o.fc, .slice o.ma o.ml o.mc]] w1 fun e w' => e = .returned (.bool true) ∧ After ρ w W most av (ts.map pp) w') := fun w1 hb =>
    (plain_any (o := o) (h.on hb) hne hm hon hkey).mono fun e w' he => ⟨he.1, After.pre h.fresh hb he.2⟩
  have h8 := h.few
  obtain ⟨g, cap, rfl, hcap, hcells⟩ := pre_cells h hne
  have HC : Hid (∀ w1, Below w.heap.size w w1 → w1.cell? ⟨W, 0, none⟩ = some (.slice (some ⟨g, 0, none⟩) ts.length cap) ∧ w1.cell? ⟨W, 1, none⟩ = some (.int .i64 most) ∧ ∀ (j : Nat) t, ts[j]? = some t → w1.cell? ⟨g, j * 2, none⟩ = some (.pointer (some ⟨t.1, 0, none⟩)) ∧ w1.cell? ⟨g, j * 2 + 1, none⟩ = some (.pointer (some ⟨t.2.1, 0, none⟩))) := hcells
  have HB1 : Hid (∀ ob, Below w.heap.size w (w.alloc ob)) := fun ob => below_alloc w ob
  have HB2 : Hid (∀ ob ob', Below w.heap.size w ((w.alloc ob).alloc ob')) := fun ob ob' => (HB1.out ob).alloc (HB1.out ob).size _
  have HPick : Hid (∀ w1, Calls Tryz.prog 19 #[.int .i64 o.on, .int .i64 ts.length] w1 fun e w' => (∃ j : Nat, j < ts.length ∧ e = .returned (.int .i64 j)) ∧ w' = w1) := fun w1 => pick_any o.on ts.length w1 hne h8 hon
  have hWlt := idx_lt h.blk
  obtain ⟨xo, ro, hxr⟩ : ∃ xo ro : Nat → Nat, ∀ j, j < ts.length → ∃ t, ts[j]? = some t ∧ xo j = t.1 ∧ ro j = t.2.1 := ⟨fun j => ((ts[j]?).getD (0, 0, [])).1, fun j => ((ts[j]?).getD (0, 0, [])).2.1, fun j hj => ⟨_, List.getElem?_eq_getElem hj, by simp [hj], by simp [hj]⟩⟩
  have HX : Hid (∀ w1, Below w.heap.size w w1 → ∀ j, j < ts.length → w1.cell? ⟨g, j * 2, none⟩ = some (.pointer (some ⟨xo j, 0, none⟩)) ∧ w1.cell? ⟨g, j * 2 + 1, none⟩ = some (.pointer (some ⟨ro j, 0, none⟩))) := fun w1 hb j hj => by
    obtain ⟨t, ht, e1, e2⟩ := hxr j hj
    rw [e1, e2]
    exact (hcells w1 hb).2.2 j t ht
  have HXR : Hid (∀ j, j < ts.length → ∃ t, ts[j]? = some t ∧ xo j = t.1 ∧ ro j = t.2.1) := hxr
  clear h hcells hxr
  have p1 := fun ob => (HC.out _ (HB1.out ob)).1
  have p2 := fun ob ob' => (HC.out _ (HB2.out ob ob')).1
  have o2 : ∀ ob', ((w.alloc (opB o)).alloc ob').cell? ⟨w.heap.size, 1, none⟩ = some (.int .i64 o.on) := fun ob' => (opB_cells (old_new w (opB o) ob')).2.1
  have o1 : (w.alloc (opB o)).cell? ⟨w.heap.size, 1, none⟩ = some (.int .i64 o.on) := (opB_cells (heap_alloc_new w (opB o))).2.1
  have ebox : ∀ (w1 : World), w1.alloc (.cells #[.int .i64 o.kind, .int .i64 o.on, .int .i64 o.other, .string o.key, .string o.till, .int .i64 o.n, .slice o.pa o.pl o.pc, .slice o.fa o.fl o.fc, .slice o.ma o.ml o.mc] 39) = w1.alloc (opB o) := fun w1 => rfl
  unfold opV
  go_enter Tryz.func11, Tryz.ntmps11
  go_wp2_with fail
  go_cut [5] (fun s wx => ∃ (b j : Nat) (t : Nat × Nat × List KV), s = .pointer (some ⟨b, 0, none⟩) ∧ ts[j]? = some t ∧ Hid (Below w.heap.size w wx) ∧ wx.heap[w.heap.size]? = some (opB o) ∧ wx.heap[b]? = some (twB t.1 t.2.1))
  case first =>
    have hS : (fun w' : World => w'.cell? ⟨W, 0, none⟩ = some (.slice (some ⟨g, 0, none⟩) ts.length cap) ∧ w'.cell? ⟨w.heap.size, 1, none⟩ = some (.int .i64 o.on) ∧ ∀ j, j < ts.length → w'.cell? ⟨g, j * 2, none⟩ = some (.pointer (some ⟨xo j, 0, none⟩)) ∧ w'.cell? ⟨g, j * 2 + 1, none⟩ = some (.pointer (some ⟨ro j, 0, none⟩))) ((w.alloc (opB o)).drew) := ⟨p1 _, o1, fun j hj => HX.out _ (HB1.out _) j hj⟩
    have hS2 : ∀ ob', (fun w' : World => w'.cell? ⟨W, 0, none⟩ = some (.slice (some ⟨g, 0, none⟩) ts.length cap) ∧ w'.cell? ⟨w.heap.size, 1, none⟩ = some (.int .i64 o.on) ∧ ∀ j, j < ts.length → w'.cell? ⟨g, j * 2, none⟩ = some (.pointer (some ⟨xo j, 0, none⟩)) ∧ w'.cell? ⟨g, j * 2 + 1, none⟩ = some (.pointer (some ⟨ro j, 0, none⟩))) (((w.alloc (opB o)).alloc ob').drew) := fun ob' => ⟨p2 _ _, o2 _, fun j hj => HX.out _ (HB2.out _ _) j hj⟩
    go_region_held3 (fun w' => w'.cell? ⟨W, 0, none⟩ = some (.slice (some ⟨g, 0, none⟩) ts.length cap) ∧ w'.cell? ⟨w.heap.size, 1, none⟩ = some (.int .i64 o.on) ∧ ∀ j, j < ts.length → w'.cell? ⟨g, j * 2, none⟩ = some (.pointer (some ⟨xo j, 0, none⟩)) ∧ w'.cell? ⟨g, j * 2 + 1, none⟩ = some (.pointer (some ⟨ro j, 0, none⟩))) (first | exact hS | exact hS2 _ | go_keep) ((go_at_call 19; refine (HPick.out _).mono ?_; rintro e w' ⟨⟨j, hj, rfl⟩, rfl⟩; have hjI : (j : Int) < (ts.length : Int) := (by omega)))
    all_goals (go_wp2_with fail; go_meet)
    all_goals (obtain ⟨t, ht, e1, e2⟩ := HXR.out j hj; exact ⟨_, j, t, rfl, ht, (HB2.out _ _).drew, old_new w _ _, by rw [← e1, ← e2]; exact new_new w _ _⟩)
  case rest =>
    obtain ⟨b, j, t, rfl, ht, HB, hop, htw⟩ := hcut
    obtain ⟨o0, o1', o2', o3, o4, o5, o6, o7, o8⟩ := opB_cells hop
    clear p1 p2 o1 o2 hop htw
    have n6 : ¬ o.kind = 6 := by omega
    have n7 : ¬ o.kind = 7 := by omega
    have n8 : ¬ o.kind = 8 := by omega
    have n9 : ¬ o.kind = 9 := by omega
    go_wp2_with (
      (go_at_call 22; refine (HPlain.out _ HB.out).mono ?_; rintro e w5 ⟨rfl, haft⟩))
    go_ret
    exact ⟨rfl, haft⟩

end Go.Proofs.YtcgjppacnhmjlaaGreat
