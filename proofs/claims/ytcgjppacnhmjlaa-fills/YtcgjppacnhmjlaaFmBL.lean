/- Own texts: FxG, FxH. -/
import Derived.Test.YtcgjppacnhmjlaaFmBK
import Derived.Deep.RegionHeld3

section
set_option linter.unusedVariables false
set_option linter.unusedSimpArgs false
set_option linter.unusedSectionVars false
/-! The law's own function: its two drawn regions. -/
namespace Go.Proofs.Ytcgjppacnhmjlaa.Sim
open Go Go.Conc Go.ConcN Go.Conc.Lib Go.ConcR.Gen Go.RowKit
set_option linter.unusedVariables false
set_option linter.unusedSectionVars false
set_option linter.unusedSimpArgs false

def yF (t : Array Value) (k : Nat) : Value := (t[k]?).getD undef
theorem avr_y {G : FuncId → Prop} {R : BR} {t : Array Value} (h : AVR G R t t) (k : Nat) : VR G R (yF t k) (yF t k) := by
  unfold yF
  cases e : t[k]? with
  | none => exact .undef
  | some v => exact h.2 k v v e e
def z12 (x u : Nat → Value) (v0 v1 v7 v8 v9 v10 v13 v14 v15 : Value) : List (Nat × Value) := [(0, v0), (1, v1), (2, x 2), (3, x 3), (4, x 4), (5, x 5), (7, v7), (8, v8), (9, v9), (10, v10), (13, v13), (14, v14), (15, v15), (16, undef), (17, undef), (18, undef), (19, undef), (20, undef), (21, undef), (22, undef), (23, undef), (24, x 24), (25, x 25), (26, x 26), (27, x 27), (28, x 28), (29, x 29), (30, x 30), (31, x 31), (32, x 32), (33, x 33), (34, x 34), (35, x 35), (36, x 36), (37, x 37), (38, x 38), (39, x 39), (40, x 40), (41, x 41), (42, x 42), (43, x 43), (44, x 44), (56, x 56), (57, x 57), (58, x 58), (59, x 59), (60, u 60), (61, u 61), (62, u 62), (63, u 63), (64, u 64), (65, u 65), (66, u 66), (67, u 67), (68, x 68), (69, x 69), (70, x 70), (71, x 71), (72, x 72), (73, x 73), (74, x 74), (75, x 75), (76, x 76), (77, x 77), (78, x 78), (79, x 79), (80, x 80), (81, x 81), (82, x 82), (83, x 83), (84, x 84), (85, x 85), (86, x 86), (87, x 87), (88, x 88), (89, x 89), (90, x 90), (91, x 91), (92, x 92), (93, x 93), (94, x 94), (95, x 95), (96, x 96), (97, x 97), (98, x 98), (99, x 99), (100, x 100), (101, x 101), (102, x 102), (103, x 103), (104, undef), (105, undef), (106, undef), (107, undef), (108, undef), (109, undef), (110, undef), (111, undef), (112, undef), (113, undef), (114, undef), (115, undef), (116, undef), (117, undef), (118, undef), (119, undef), (120, undef), (121, undef), (122, x 122), (123, x 123), (124, x 124), (125, x 125), (126, x 126), (127, x 127), (128, undef), (129, undef), (130, undef), (131, undef), (132, undef), (133, undef), (134, undef), (135, undef), (136, undef), (137, undef), (138, undef), (139, undef), (140, undef), (141, undef), (142, undef), (143, undef), (144, undef), (145, undef), (146, undef), (147, undef), (148, undef), (149, undef), (150, undef), (151, undef), (152, undef), (153, undef), (154, undef), (155, undef), (156, undef)]
def t12 (y : Nat → Value) (v6 v11 v12 : Value) : Array Value := #[undef, undef, undef, undef, undef, undef, v6, undef, undef, undef, undef, v11, v12, undef, undef, undef, undef, undef, undef, undef, undef, undef, undef, undef, undef, undef, undef, undef, undef, undef, undef, undef, undef, undef, undef, undef, undef, undef, undef, undef, undef, undef, undef, undef, undef, y 45, y 46, y 47, y 48, y 49, y 50, y 51, y 52, y 53, y 54, y 55, undef, undef, undef, undef, undef, undef, undef, undef, undef, undef, undef, undef, undef, undef, undef, undef, undef, undef, undef, undef, undef, undef, undef, undef, undef, undef, undef, undef, undef, undef, undef, undef, undef, undef, undef, undef, undef, undef, undef, undef, undef, undef, undef, undef, undef, undef, undef, undef, undef, undef, undef, undef, undef, undef, undef, undef, undef, undef, undef, undef, undef, undef, undef, undef, undef, undef, undef, undef, undef, undef, undef, undef, undef, undef, undef, undef, undef, undef, undef, undef, undef, undef, undef, undef, undef, undef, undef, undef, undef, undef, undef, undef, undef, undef, undef, undef, undef, undef, undef, undef, undef]
def z14 (x y : Nat → Value) (v0 v1 v8 v9 v10 v13 v14 v15 : Value) : List (Nat × Value) := [(0, v0), (1, v1), (2, x 2), (3, x 3), (4, x 4), (5, x 5), (8, v8), (9, v9), (10, v10), (13, v13), (14, v14), (15, v15), (16, undef), (17, undef), (18, undef), (19, undef), (20, undef), (21, undef), (22, undef), (23, undef), (24, x 24), (25, x 25), (26, x 26), (27, x 27), (28, x 28), (29, x 29), (30, x 30), (31, x 31), (32, x 32), (33, x 33), (34, x 34), (35, x 35), (36, x 36), (37, x 37), (38, x 38), (39, x 39), (40, x 40), (41, x 41), (42, x 42), (43, x 43), (44, x 44), (45, y 45), (46, y 46), (47, y 47), (48, y 48), (49, y 49), (50, y 50), (51, y 51), (52, y 52), (53, y 53), (54, y 54), (55, y 55), (56, x 56), (57, x 57), (58, x 58), (59, x 59), (68, x 68), (69, x 69), (70, x 70), (71, x 71), (72, x 72), (73, x 73), (74, x 74), (75, x 75), (76, x 76), (77, x 77), (78, x 78), (79, x 79), (80, x 80), (81, x 81), (82, x 82), (83, x 83), (84, x 84), (85, x 85), (86, x 86), (87, x 87), (88, x 88), (89, x 89), (90, x 90), (91, x 91), (92, x 92), (93, x 93), (94, x 94), (95, x 95), (96, x 96), (97, x 97), (98, x 98), (99, x 99), (100, x 100), (101, x 101), (102, x 102), (103, x 103), (104, undef), (105, undef), (106, undef), (107, undef), (108, undef), (109, undef), (110, undef), (111, undef), (112, undef), (113, undef), (114, undef), (115, undef), (116, undef), (117, undef), (118, undef), (119, undef), (120, undef), (121, undef), (122, x 122), (123, x 123), (124, x 124), (125, x 125), (126, x 126), (127, x 127), (128, undef), (129, undef), (130, undef), (131, undef), (132, undef), (133, undef), (134, undef), (135, undef), (136, undef), (137, undef), (138, undef), (139, undef), (140, undef), (141, undef), (142, undef), (143, undef), (144, undef), (145, undef), (146, undef), (147, undef), (148, undef), (149, undef), (150, undef), (151, undef), (152, undef), (153, undef), (154, undef), (155, undef), (156, undef)]
def t14 (u : Nat → Value) (v6 v7 v11 v12 : Value) : Array Value := #[undef, undef, undef, undef, undef, undef, v6, v7, undef, undef, undef, v11, v12, undef, undef, undef, undef, undef, undef, undef, undef, undef, undef, undef, undef, undef, undef, undef, undef, undef, undef, undef, undef, undef, undef, undef, undef, undef, undef, undef, undef, undef, undef, undef, undef, undef, undef, undef, undef, undef, undef, undef, undef, undef, undef, undef, undef, undef, undef, undef, u 60, u 61, u 62, u 63, u 64, u 65, u 66, u 67, undef, undef, undef, undef, undef, undef, undef, undef, undef, undef, undef, undef, undef, undef, undef, undef, undef, undef, undef, undef, undef, undef, undef, undef, undef, undef, undef, undef, undef, undef, undef, undef, undef, undef, undef, undef, undef, undef, undef, undef, undef, undef, undef, undef, undef, undef, undef, undef, undef, undef, undef, undef, undef, undef, undef, undef, undef, undef, undef, undef, undef, undef, undef, undef, undef, undef, undef, undef, undef, undef, undef, undef, undef, undef, undef, undef, undef, undef, undef, undef, undef, undef, undef, undef, undef, undef, undef, undef, undef]
noncomputable def c12 : Code := (nl (nb (nl (nr (nb (nb (nr (nl (nr (nr (nr (nr (nr (nr (nr (nr B6))))))))))))))))
noncomputable def c14 : Code := (nl (nr (nr (nb (nl (nr (nb (nb (nr (nl (nr (nr (nr (nr (nr (nr (nr (nr B6))))))))))))))))))
def pairObj (i : Int) (s : ByteArray) : Obj := .cells #[.string s, .int .i64 i, .int .i64 0, .string s] 50

def AllV (Q : Value → Prop) : List Value → Prop
  | [] => True
  | v :: l => Q v ∧ AllV Q l
theorem allV_mem {Q : Value → Prop} : ∀ {l : List Value}, AllV Q l → ∀ v ∈ l, Q v
  | [], _, v, hv => by cases hv
  | a :: l, h, v, hv => by
    rcases List.mem_cons.1 hv with rfl | hv
    · exact h.1
    · exact allV_mem h.2 v hv
theorem avr_all {G : FuncId → Prop} {R : BR} {l : List Value} (h : AllV (fun v => VR G R v v) l) : AVR G R l.toArray l.toArray := ⟨rfl, fun i v v' a b => by
  rw [a] at b; cases b
  exact allV_mem h v (by simpa using Array.mem_of_getElem? a)⟩
theorem avr12 {G : FuncId → Prop} {R : BR} {y : Nat → Value} {v6 v11 v12 : Value} (h6 : VR G R v6 v6) (h11 : VR G R v11 v11) (h12 : VR G R v12 v12) (hy : ∀ k, VR G R (y k) (y k)) : AVR G R (t12 y v6 v11 v12) (t12 y v6 v11 v12) := avr_all ⟨.undef, .undef, .undef, .undef, .undef, .undef, h6, .undef, .undef, .undef, .undef, h11, h12, .undef, .undef, .undef, .undef, .undef, .undef, .undef, .undef, .undef, .undef, .undef, .undef, .undef, .undef, .undef, .undef, .undef, .undef, .undef, .undef, .undef, .undef, .undef, .undef, .undef, .undef, .undef, .undef, .undef, .undef, .undef, .undef, hy 45, hy 46, hy 47, hy 48, hy 49, hy 50, hy 51, hy 52, hy 53, hy 54, hy 55, .undef, .undef, .undef, .undef, .undef, .undef, .undef, .undef, .undef, .undef, .undef, .undef, .undef, .undef, .undef, .undef, .undef, .undef, .undef, .undef, .undef, .undef, .undef, .undef, .undef, .undef, .undef, .undef, .undef, .undef, .undef, .undef, .undef, .undef, .undef, .undef, .undef, .undef, .undef, .undef, .undef, .undef, .undef, .undef, .undef, .undef, .undef, .undef, .undef, .undef, .undef, .undef, .undef, .undef, .undef, .undef, .undef, .undef, .undef, .undef, .undef, .undef, .undef, .undef, .undef, .undef, .undef, .undef, .undef, .undef, .undef, .undef, .undef, .undef, .undef, .undef, .undef, .undef, .undef, .undef, .undef, .undef, .undef, .undef, .undef, .undef, .undef, .undef, .undef, .undef, .undef, .undef, .undef, .undef, .undef, .undef, .undef, .undef, .undef, .undef, .undef, trivial⟩
theorem avr14 {G : FuncId → Prop} {R : BR} {u : Nat → Value} {v6 v7 v11 v12 : Value} (h6 : VR G R v6 v6) (h7 : VR G R v7 v7) (h11 : VR G R v11 v11) (h12 : VR G R v12 v12) (hu : ∀ k, VR G R (u k) (u k)) : AVR G R (t14 u v6 v7 v11 v12) (t14 u v6 v7 v11 v12) := avr_all ⟨.undef, .undef, .undef, .undef, .undef, .undef, h6, h7, .undef, .undef, .undef, h11, h12, .undef, .undef, .undef, .undef, .undef, .undef, .undef, .undef, .undef, .undef, .undef, .undef, .undef, .undef, .undef, .undef, .undef, .undef, .undef, .undef, .undef, .undef, .undef, .undef, .undef, .undef, .undef, .undef, .undef, .undef, .undef, .undef, .undef, .undef, .undef, .undef, .undef, .undef, .undef, .undef, .undef, .undef, .undef, .undef, .undef, .undef, .undef, hu 60, hu 61, hu 62, hu 63, hu 64, hu 65, hu 66, hu 67, .undef, .undef, .undef, .undef, .undef, .undef, .undef, .undef, .undef, .undef, .undef, .undef, .undef, .undef, .undef, .undef, .undef, .undef, .undef, .undef, .undef, .undef, .undef, .undef, .undef, .undef, .undef, .undef, .undef, .undef, .undef, .undef, .undef, .undef, .undef, .undef, .undef, .undef, .undef, .undef, .undef, .undef, .undef, .undef, .undef, .undef, .undef, .undef, .undef, .undef, .undef, .undef, .undef, .undef, .undef, .undef, .undef, .undef, .undef, .undef, .undef, .undef, .undef, .undef, .undef, .undef, .undef, .undef, .undef, .undef, .undef, .undef, .undef, .undef, .undef, .undef, .undef, .undef, .undef, .undef, .undef, .undef, .undef, .undef, .undef, .undef, .undef, .undef, .undef, trivial⟩

set_option maxRecDepth 100000 in
theorem wp12 {w : World} {lb n lc i : Nat} {s : ByteArray} {y : Nat → Value} {v12 : Value} (hc : w.cell? ⟨lb, i, none⟩ = some (.string s)) (hi : i < n) :
    c12.wp Try.prog (fun e a' w' => e = .normal ∧ a'.tmps = t12 (yF a'.tmps) (.slice (some ⟨lb, 0, none⟩) n lc) (.int .i64 (i : Int)) (ptr w.heap.size) ∧ ∃ tp d, w' = Sim.re (newB w (pairObj i s)) tp d) ⟨t12 y (.slice (some ⟨lb, 0, none⟩) n lc) (.int .i64 (i : Int)) v12, []⟩ w := by
  unfold c12 B6 Try.f6 t12
  dsimp only [cd, nl, nr, nb, Option.getD]
  go_region_held3 (fun w' => w'.cell? ⟨lb, i, none⟩ = some (.string s)) (first | exact hc | go_keep) (fail)
  exact ⟨rfl, by kernel_rfl, (w.alloc (pairObj i s)).drew.tape, (w.alloc (pairObj i s)).drew.drawn, rfl⟩

set_option maxRecDepth 100000 in
theorem wp14 {S : Nat → Prop} {w : World} {xb lb pb n lc i : Nat} {l : List KV} {s : ByteArray} {u : Nat → Value} (hc : w.cell? ⟨lb, i, none⟩ = some (.string s)) (hi : i < n) (p1 : w.cell? ⟨pb, 1, none⟩ = some (.int .i64 (i : Int))) (p2 : w.cell? ⟨pb, 2, none⟩ = some (.int .i64 0)) (p3 : w.cell? ⟨pb, 3, none⟩ = some (.string s)) (hS : Open S w) (h : IndexAt S w xb l) (hk : s.size ≤ 64) (hf : l.length < 3000) (n1 : lb ≠ xb) (n2 : pb ≠ xb) :
    c14.wp Try.prog (fun e a' w' => e = .normal ∧ a'.tmps = t14 (yF a'.tmps) (.slice (some ⟨lb, 0, none⟩) n lc) (ptr xb) (.int .i64 (i : Int)) (ptr pb) ∧ IndexAt S w' xb (ins (kof s) ((i : Int), (0 : Int), s) l) ∧ ButH xb w w') ⟨t14 u (.slice (some ⟨lb, 0, none⟩) n lc) (ptr xb) (.int .i64 (i : Int)) (ptr pb), []⟩ w := by
  have keep : ∀ {w1 w2 : World} {b o : Nat} {v : Value}, But xb w1 w2 → b ≠ xb → w1.cell? ⟨b, o, none⟩ = some v → w2.cell? ⟨b, o, none⟩ = some v := fun hb hne hcc => (World.cell?_of_block (a := ⟨_, _, none⟩) (hb.block _ (World.block_lt_of_cell? _ _ hcc) hne)).trans hcc
  have HP : Hid (∀ w1, Below w.heap.size w w1 → Calls Try.prog 20 #[.pointer (some ⟨xb, 0, none⟩), .string s, .agg #[.int .i64 (i : Int), .int .i64 0, .string s]] w1 fun e w' => (∃ a b, e = .returned (.tuple #[plc a, .bool b, .int .i64 0])) ∧ IndexAt S w' xb (ins (kof s) ((i : Int), (0 : Int), s) l) ∧ ButH xb w w' ∧ (w'.cell? ⟨lb, i, none⟩ = some (.string s) ∧ w'.cell? ⟨pb, 1, none⟩ = some (.int .i64 (i : Int)) ∧ w'.cell? ⟨pb, 2, none⟩ = some (.int .i64 0) ∧ w'.cell? ⟨pb, 3, none⟩ = some (.string s))) := fun w1 hb => by
    refine (put_room (w := w1) (x := xb) (key := s) (v := ((i : Int), (0 : Int), s)) (fun k hk => hS k (Nat.le_trans hb.size hk)) (index_bel h (Bel.mk hb.size (fun b hb' => hb.block b hb') hb.os hb.output)) hk hf).mono ?_
    rintro e w' ⟨h1, h2, h3⟩
    exact ⟨h1, h2, ⟨Nat.le_trans hb.size h3.size, fun k hk hne => (h3.block k (Nat.lt_of_lt_of_le hk hb.size) hne).trans (hb.block k hk), h3.os.trans hb.os, h3.output.trans hb.output⟩, keep h3 n1 (cell_later hb hc), keep h3 n2 (cell_later hb p1), keep h3 n2 (cell_later hb p2), keep h3 n2 (cell_later hb p3)⟩
  clear hS h hf
  unfold c14 B6 Try.f6 t14
  dsimp only [cd, nl, nr, nb, Option.getD]
  go_region_held3 (fun w' => w'.cell? ⟨lb, i, none⟩ = some (.string s) ∧ w'.cell? ⟨pb, 1, none⟩ = some (.int .i64 (i : Int)) ∧ w'.cell? ⟨pb, 2, none⟩ = some (.int .i64 0) ∧ w'.cell? ⟨pb, 3, none⟩ = some (.string s)) (first | exact ⟨hc, p1, p2, p3⟩ | assumption | go_keep) ((go_at_call 20; refine (HP.out _ (below_drewN'' (Below.refl _ _) _)).mono ?_; rintro e w' ⟨⟨a, b, rfl⟩, hI, hB, hL⟩))
  exact ⟨rfl, by kernel_rfl, hI, hB⟩
end Go.Proofs.Ytcgjppacnhmjlaa.Sim
end

section
set_option linter.unusedVariables false
set_option linter.unusedSimpArgs false
set_option linter.unusedSectionVars false
/-! The law's own function: a key's round. -/
namespace Go.Proofs.Ytcgjppacnhmjlaa.Sim
open Go Go.Conc Go.ConcN Go.Conc.Lib Go.ConcR.Gen Go.RowKit
set_option linter.unusedVariables false
set_option linter.unusedSectionVars false
set_option linter.unusedSimpArgs false

theorem RowQ.cell1 {Pl : Value → Prop} {w : World} {base g cap : Nat} {e : TypeId} {n : Nat} {xs : List Value} (h : RowQ Pl w base e 1 (.slice (some ⟨g, 0, none⟩) n cap) n xs) {i : Nat} {v : Value} (hv : xs[i]? = some v) : w.cell? ⟨g, i, none⟩ = some v := by
  have := h.own.cells (g := g) rfl i v hv
  rw [Addr.add_lit, Nat.zero_add] at this
  exact this
theorem str_get {ss : List ByteArray} {i : Nat} {s : ByteArray} (h : ss[i]? = some s) : (ss.map Value.string)[i]? = some (.string s) := by simp [h]
theorem run_load50 {w : World} {pb : Nat} {s : ByteArray} {i : Int} (h : w.heap[pb]? = some (pairObj i s)) {o : Oper} {ρ : Operand → Value} (hop : o.op = .load 50 (.tmp 12)) (hp : ρ (.tmp 12) = ptr pb) : (execOp ρ o).run Try.prog w = .ok (.value (.agg #[.string s, .int .i64 i, .int .i64 0, .string s])) w := by
  unfold execOp
  simp only [hop, hp]
  simp [go_sem, Instr.loadAt, loadVar, World.cell?, h, pairObj]
theorem info50 : (Try.prog.info? 50).map (fun i => (i.zero, i.size, i.bytes)) = some (some (.agg #[.string ⟨#[]⟩, .int .i64 0, .int .i64 0, .string ⟨#[]⟩]), 4, 48) := by kernel_rfl
theorem info48 : (Try.prog.info? 48).map (fun i => (i.zero, i.size, i.bytes)) = some (some (.slice none 0 0), 1, 24) := by kernel_rfl

section
variable {S O : Nat → Prop} {w0 : World} {ss : List ByteArray} {xb yb lb lc : Nat} {psv pv : Value} {i j : Nat} {vs : List Value} {pss : List (List PP)} {cur : List PP} {R : BR} {w : World} {s : ByteArray}
  {x y u : Nat → Value} {v0 v1 v12 v13 v14 v15 : Value} {Post : Value → World → Prop}

set_option maxRecDepth 100000 in
/-- To behind the making of the pair. -/
theorem m_12 (h : P1 S O w0 ss xb yb (.slice (some ⟨lb, 0, none⟩) ss.length lc) psv pv i i vs pss cur R w) (hs : ss[i]? = some s) (hn : ss.length ≤ 300) (hy : ∀ k, VR Xm.G R (y k) (y k)) (h12 : VR Xm.G R v12 v12)
    (hnx : ∀ x y' R' w' pb, P1 S O w0 ss xb yb (.slice (some ⟨lb, 0, none⟩) ss.length lc) psv pv i i vs pss cur R' w' → w'.heap[pb]? = some (pairObj i s) → pb ≠ xb → (∀ k, VR Xm.G R' (y' k) (y' k)) → VR Xm.G R' (ptr pb) (ptr pb) → w.heap.size ≤ pb → BR.Sub R R' →
      MFg Try.prog Post O (G6 (T6 x y' u v0 v1 (.slice (some ⟨lb, 0, none⟩) ss.length lc) (ptr xb) (ptr yb) psv pv (.int .i64 (i : Int)) (ptr pb) v13 v14 v15) iR13) w') :
    MFg Try.prog Post O (G6 (T6 x y u v0 v1 (.slice (some ⟨lb, 0, none⟩) ss.length lc) (ptr xb) (ptr yb) psv pv (.int .i64 (i : Int)) v12 v13 v14 v15) iL6) w := by
  have hi : i < ss.length := (List.getElem?_eq_some_iff.1 hs).1
  have hc : w.cell? ⟨lb, i, none⟩ = some (.string s) := h.l.cell1 (str_get hs)
  refine .kern (n := 7) (by ((repeat (refine ⟨by kernel_rfl, fun _ => by kernel_rfl, ?_⟩)); exact True.intro)) ?_
  refine .val (i := 42) (v := .bool (decide ((i : Int) < (ss.length : Int)))) (v' := .bool true) (by kernel_rfl) (by rw [decide_eq_true (by omega)]) ?_
  refine .kern (n := 6) (by ((repeat (refine ⟨by kernel_rfl, fun _ => by kernel_rfl, ?_⟩)); exact True.intro)) ?_
  refine .lit (tm := fun x => T6 x y u v0 v1 (.slice (some ⟨lb, 0, none⟩) ss.length lc) (ptr xb) (ptr yb) psv pv (.int .i64 (i : Int)) v12 v13 v14 v15) (it := iR12) (by kernel_rfl) fun x => ?_
  refine .codez (c := c12) (k := iR13) (z := z12 x u v0 v1 (ptr xb) (ptr yb) psv pv v13 v14 v15) (tm := t12 y (.slice (some ⟨lb, 0, none⟩) ss.length lc) (.int .i64 (i : Int)) v12)
    (Q := fun e a' w' => e = .normal ∧ a'.tmps = t12 (yF a'.tmps) (.slice (some ⟨lb, 0, none⟩) ss.length lc) (.int .i64 (i : Int)) (ptr w.heap.size) ∧ ∃ tp d, w' = Sim.re (newB w (pairObj i s)) tp d)
    (St := fun a' w' => a'.tmps = t12 (yF a'.tmps) (.slice (some ⟨lb, 0, none⟩) ss.length lc) (.int .i64 (i : Int)) (ptr w.heap.size) ∧ ∃ tp d, w' = Sim.re (newB w (pairObj i s)) tp d)
    (by kernel_rfl) (by kernel_rfl) ⟨_, Try.func6⟩ (by kernel_rfl) (by kernel_rfl) h.known (avr12 h.vl (.int _ _) h12 hy) (fun a w1 tp d ⟨h1, tp', d', h2⟩ => ⟨h1, tp, d, by rw [h2]; rfl⟩) (fun e a w' h => h) (fun tp => wp12 (w := Sim.re w tp 0) hc hi) fun tm' w' R' hst hK' hav hR hsz => ?_
  obtain ⟨h1, tp, d, rfl⟩ := hst
  dsimp only at h1
  have hy' : ∀ k, VR Xm.G R' (yF tm' k) (yF tm' k) := avr_y hav
  have h12' : VR Xm.G R' (ptr w.heap.size) (ptr w.heap.size) := by
    have := hav.2 12 (ptr w.heap.size) (ptr w.heap.size) (by rw [h1]; rfl) (by rw [h1]; rfl)
    exact this
  generalize yF tm' = y' at h1 hy'
  subst h1
  have hB : Bel w (Sim.re (newB w (pairObj i s)) tp d) := ⟨hsz, fun b hb => newB_old w _ hb, rfl, rfl⟩
  exact .eqv (by kernel_rfl) (hnx x y' R' _ w.heap.size (h.on hB hK' hR) (newB_new w _) (fun e => by have := (h.known.wr.lt h.vx).1; omega) hy' h12' (Nat.le_refl _) hR)

set_option maxRecDepth 100000 in
/-- To behind the append of the pair. -/
theorem m_13 {pb : Nat} {cap : Nat} {pa : Option Addr} (h : P1 S O w0 ss xb yb (.slice (some ⟨lb, 0, none⟩) ss.length lc) psv (.slice pa cur.length cap) i j vs pss cur R w) (hs : ss[i]? = some s) (hcur : cur.length ≤ 300) (hpb : w.heap[pb]? = some (pairObj i s)) (hne : pb ≠ xb) (h12 : VR Xm.G R (ptr pb) (ptr pb)) (hpr : (Value.slice pa cur.length cap).ownBlock ≠ some pb)
    (hnx : ∀ x S' R' w' pv', P1 S' O w0 ss xb yb (.slice (some ⟨lb, 0, none⟩) ss.length lc) psv pv' (i + 1) j vs pss (cur ++ [prOf i s]) R' w' → w'.heap[pb]? = some (pairObj i s) → BR.Sub R R' →
      MFg Try.prog Post O (G6 (T6 x y u v0 v1 (.slice (some ⟨lb, 0, none⟩) ss.length lc) (ptr xb) (ptr yb) psv pv' (.int .i64 (i : Int)) (ptr pb) v13 v14 v15) iR14) w') :
    MFg Try.prog Post O (G6 (T6 x y u v0 v1 (.slice (some ⟨lb, 0, none⟩) ss.length lc) (ptr xb) (ptr yb) psv (.slice pa cur.length cap) (.int .i64 (i : Int)) (ptr pb) v13 v14 v15) iR13) w := by
  refine .kern (n := 3) (by ((repeat (refine ⟨by kernel_rfl, fun _ => by kernel_rfl, ?_⟩)); exact True.intro)) ?_
  refine .op (i := 1) (U := [12]) (St := fun v w1 => v = .agg #[.string s, .int .i64 (i : Int), .int .i64 0, .string s] ∧ ∃ tp d, w1 = Sim.re w tp d) (by kernel_rfl) ⟨by kernel_rfl, by kernel_rfl, by kernel_rfl, by kernel_rfl⟩ (by kernel_rfl) (by kernel_rfl) h.known (fun t ht => ?_) (fun tp d => ⟨_, _, run_load50 (w := Sim.re w tp d) hpb (by kernel_rfl) (by kernel_rfl), rfl, tp, d, rfl⟩) fun v w1 R1 hst hK1 hv1 hsub1 hsz1 => ?_
  · simp at ht; subst ht; exact vr_of (u := ptr pb) (by kernel_rfl) h12
  obtain ⟨rfl, tp, d, rfl⟩ := hst
  refine .re ?_
  have h' := h.on (Bel.refl w) (hK1.re w.tape w.drawn) hsub1
  refine .op (i := 2) (U := [57]) (St := fun v w1 => v = .slice (some ⟨w.heap.size, 0, none⟩) 1 1 ∧ ∃ tp d, w1 = Sim.re (newB w (pairObj i s)) tp d) (by kernel_rfl) ⟨by kernel_rfl, by kernel_rfl, by kernel_rfl, by kernel_rfl⟩ (by kernel_rfl) (by kernel_rfl) h'.known (fun t ht => ?_) (fun tp d => ⟨_, _, by kernel_rfl, rfl, tp, d, rfl⟩) fun v w1 R2 hst hK2 hv2 hsub2 hsz2 => ?_
  · simp at ht; subst ht; exact vr_of (u := .agg #[.string s, .int .i64 (i : Int), .int .i64 0, .string s]) (by kernel_rfl) hv1
  obtain ⟨rfl, tp2, d2, rfl⟩ := hst
  have hB : Bel w (Sim.re (newB w (pairObj i s)) tp2 d2) := ⟨hsz2, fun b hb => newB_old w _ hb, rfl, rfl⟩
  have h2 := h'.on hB hK2 hsub2
  have hcells : ∀ (k : Nat) v, (cellsP (prOf i s))[k]? = some v → (Sim.re (newB w (pairObj i s)) tp2 d2).cell? ((⟨w.heap.size, 0, none⟩ : Addr).add k) = some v := by
    intro k v hk
    have hb : (Sim.re (newB w (pairObj i s)) tp2 d2).heap[w.heap.size]? = some (pairObj i s) := newB_new w _
    generalize Sim.re (newB w (pairObj i s)) tp2 d2 = W at hb ⊢
    rw [Addr.add_lit, Nat.zero_add]
    match k, hk with
    | 0, hk | 1, hk | 2, hk | 3, hk => simpa [World.cell?, hb, pairObj, cellsP, prOf] using hk
    | k + 4, hk => simp [cellsP] at hk
  have hplain : ∀ v ∈ cellsP (prOf i s), Plain1 v := by
    intro v hv
    simp [cellsP, prOf] at hv
    rcases hv with rfl | rfl | rfl | rfl
    · exact .inl ⟨_, rfl⟩
    · exact .inr ⟨_, _, rfl⟩
    · exact .inr ⟨_, _, rfl⟩
    · exact .inl ⟨_, rfl⟩
  obtain ⟨i0, hi0, hz0, hz1, hz2⟩ := info_parts info50
  have hpb2 : (Sim.re (newB w (pairObj i s)) tp2 d2).heap[pb]? = some (pairObj i s) := (hB.block pb (Array.getElem?_eq_some_iff.1 hpb).1).trans hpb
  refine .app (Pl := Plain1) (i := 3) (s := 56) (x := 58) (t := 48) (e := 50) (base := w0.heap.size) (ti := i0) (z := .agg #[.string ⟨#[]⟩, .int .i64 0, .int .i64 0, .string ⟨#[]⟩]) (size := 4) (bytes := 48) (v := .slice pa cur.length cap) (n := cur.length) (xs := cur.flatMap cellsP) (ad := ⟨w.heap.size, 0, none⟩) (c := 1) (news := cellsP (prOf i s)) (by kernel_rfl) ⟨by kernel_rfl, by kernel_rfl, by kernel_rfl, by kernel_rfl⟩ (by kernel_rfl) (by kernel_rfl)
    (by kernel_rfl) hi0 hz0 hz1 hz2 rfl (by omega) (fun x hx => ?_) (by kernel_rfl) (by kernel_rfl) h2.known h2.vp hv2 h2.p rfl hcells (fun v hv => ?_) hplain (by simp only [maxLen]; omega) (by omega) (by have := h2.bel.size; exact this) fun pv' w' R' hrow hg hK' hv' hsub' hfr => ?_
  · simp only [Value.cells, List.mem_toArray, List.mem_cons, List.not_mem_nil, or_false] at hx
    rcases hx with rfl | rfl | rfl | rfl
    · exact .inl ⟨_, rfl⟩
    · exact .inr ⟨_, _, rfl⟩
    · exact .inr ⟨_, _, rfl⟩
    · exact .inl ⟨_, rfl⟩
  · rcases hplain v hv with ⟨q, rfl⟩ | ⟨q, r, rfl⟩ <;> rfl
  obtain ⟨S', h3⟩ := h2.more hs hrow hfr hg hK' hsub' hv'
  have hpb3 : w'.heap[pb]? = some (pairObj i s) := (hg.block pb (Array.getElem?_eq_some_iff.1 hpb2).1 fun e => hpr e.symm).trans hpb2
  refine .kern (n := 3) (by ((repeat (refine ⟨by kernel_rfl, fun _ => by kernel_rfl, ?_⟩)); exact True.intro)) ?_
  exact .lit (tm := fun x => T6 x y u v0 v1 (.slice (some ⟨lb, 0, none⟩) ss.length lc) (ptr xb) (ptr yb) psv pv' (.int .i64 (i : Int)) (ptr pb) v13 v14 v15) (by kernel_rfl) fun x => hnx x S' R' w' pv' h3 hpb3 (hsub1.trans (hsub2.trans hsub'))

set_option maxRecDepth 100000 in
/-- To behind Put. -/
theorem m_14 {pb : Nat} (h : P1 S O w0 ss xb yb (.slice (some ⟨lb, 0, none⟩) ss.length lc) psv pv (i + 1) i vs pss cur R w) (hs : ss[i]? = some s) (hk : s.size ≤ 64) (hn : ss.length ≤ 300) (hpb : w.heap[pb]? = some (pairObj i s)) (hne : pb ≠ xb) (h12 : VR Xm.G R (ptr pb) (ptr pb)) (hu : ∀ k, VR Xm.G R (u k) (u k))
    (hnx : ∀ u' R' w', P1 S O w0 ss xb yb (.slice (some ⟨lb, 0, none⟩) ss.length lc) psv pv (i + 1) (i + 1) vs pss cur R' w' → (∀ k, VR Xm.G R' (u' k) (u' k)) → BR.Sub R R' →
      MFg Try.prog Post O (G6 (T6 x y u' v0 v1 (.slice (some ⟨lb, 0, none⟩) ss.length lc) (ptr xb) (ptr yb) psv pv (.int .i64 (i : Int)) (ptr pb) v13 v14 v15) iR15) w') :
    MFg Try.prog Post O (G6 (T6 x y u v0 v1 (.slice (some ⟨lb, 0, none⟩) ss.length lc) (ptr xb) (ptr yb) psv pv (.int .i64 (i : Int)) (ptr pb) v13 v14 v15) iR14) w := by
  have hi : i < ss.length := (List.getElem?_eq_some_iff.1 hs).1
  have hc : w.cell? ⟨lb, i, none⟩ = some (.string s) := h.l.cell1 (str_get hs)
  have hl : (puts ((prs ss).take i) []).length < 3000 := by
    have := (puts_len ((prs ss).take i) (l := []) List.Pairwise.nil).1
    rw [List.length_take, prs_len] at this
    simp at this
    omega
  have hlx : lb ≠ xb := fun e => index_row h.x h.l (by decide) (by rw [e]; rfl)
  refine .codez (c := c14) (k := iR15) (z := z14 x y v0 v1 (ptr yb) psv pv v13 v14 v15) (tm := t14 u (.slice (some ⟨lb, 0, none⟩) ss.length lc) (ptr xb) (.int .i64 (i : Int)) (ptr pb))
    (Q := fun e a' w' => e = .normal ∧ a'.tmps = t14 (yF a'.tmps) (.slice (some ⟨lb, 0, none⟩) ss.length lc) (ptr xb) (.int .i64 (i : Int)) (ptr pb) ∧ IndexAt S w' xb (ins (kof s) ((i : Int), (0 : Int), s) (puts ((prs ss).take i) [])) ∧ ButH xb w w')
    (St := fun a' w' => a'.tmps = t14 (yF a'.tmps) (.slice (some ⟨lb, 0, none⟩) ss.length lc) (ptr xb) (.int .i64 (i : Int)) (ptr pb) ∧ IndexAt S w' xb (ins (kof s) ((i : Int), (0 : Int), s) (puts ((prs ss).take i) [])) ∧ ButH xb w w')
    (by kernel_rfl) (by kernel_rfl) ⟨_, Try.func6⟩ (by kernel_rfl) (by kernel_rfl) h.known (avr14 h.vl (.ptr ⟨h.vx, rfl, rfl⟩) (.int _ _) h12 hu) (fun a w1 tp d ⟨h1, h2, h3⟩ => ⟨h1, index_re h2 tp d, h3.re tp d⟩) (fun e a w' h => h)
    (fun tp => Code.wp_mono (fun e a w' hh => ⟨hh.1, hh.2.1, hh.2.2.1, ⟨hh.2.2.2.size, hh.2.2.2.block, hh.2.2.2.os, hh.2.2.2.output⟩⟩) (wp14 (w := Sim.re w tp 0) (S := S) hc hi (show w.cell? _ = _ by simp [World.cell?, hpb, pairObj]) (show w.cell? _ = _ by simp [World.cell?, hpb, pairObj]) (show w.cell? _ = _ by simp [World.cell?, hpb, pairObj]) (fun k hk => h.opn k hk) (index_re h.x tp 0) hk hl hlx hne)) fun tm' w' R' hst hK' hav hR hsz => ?_
  obtain ⟨h1, h2, h3⟩ := hst
  dsimp only at h1
  have hu' : ∀ k, VR Xm.G R' (yF tm' k) (yF tm' k) := avr_y hav
  generalize yF tm' = u' at h1 hu'
  subst h1
  exact .eqv (by kernel_rfl) (hnx u' R' w' (h.put hs h2 h3 hK' hR) hu' hR)
end
end Go.Proofs.Ytcgjppacnhmjlaa.Sim
end
