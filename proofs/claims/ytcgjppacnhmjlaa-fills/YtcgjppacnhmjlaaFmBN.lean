/- Own texts: FxK, FxL. -/
import Derived.Test.YtcgjppacnhmjlaaFmBM

section
set_option linter.unusedVariables false
set_option linter.unusedSimpArgs false
set_option linter.unusedSectionVars false
/-! The law's own function: the turns; its regions, each by itself. -/
namespace Go.Proofs.Ytcgjppacnhmjlaa.Sim
open Go Go.Conc Go.ConcN Go.Conc.Lib Go.ConcR.Gen Go.RowKit
set_option linter.unusedVariables false
set_option linter.unusedSectionVars false
set_option linter.unusedSimpArgs false

def T7 (x y : Nat → Value) (v0 v1 v6 v7 v8 v9 v15 v16 v17 v18 v19 v20 v21 v22 v23 : Value) : Array Value := #[v0, v1, x 2, x 3, x 4, x 5, v6, v7, v8, v9, x 10, x 11, x 12, x 13, x 14, v15, v16, v17, v18, v19, v20, v21, v22, v23, x 24, x 25, x 26, x 27, x 28, x 29, x 30, x 31, x 32, x 33, x 34, x 35, x 36, x 37, x 38, x 39, x 40, x 41, x 42, x 43, x 44, x 45, x 46, x 47, x 48, x 49, x 50, x 51, x 52, x 53, x 54, x 55, x 56, x 57, x 58, x 59, x 60, x 61, x 62, x 63, x 64, x 65, x 66, x 67, x 68, x 69, x 70, x 71, x 72, x 73, x 74, x 75, x 76, x 77, x 78, x 79, x 80, x 81, x 82, x 83, x 84, x 85, x 86, x 87, x 88, x 89, x 90, x 91, x 92, x 93, x 94, x 95, x 96, x 97, x 98, x 99, x 100, x 101, x 102, x 103, y 104, y 105, y 106, y 107, y 108, y 109, y 110, y 111, y 112, y 113, y 114, y 115, y 116, y 117, y 118, y 119, y 120, y 121, x 122, x 123, x 124, x 125, x 126, x 127, y 128, y 129, y 130, y 131, y 132, y 133, y 134, y 135, y 136, y 137, y 138, y 139, y 140, y 141, y 142, y 143, y 144, y 145, y 146, y 147, y 148, y 149, y 150, y 151, y 152, y 153, y 154, y 155, y 156]
def t7 (y : Nat → Value) (v6 v7 v8 v16 v17 v18 v19 v20 v21 v22 v23 : Value) : Array Value := #[undef, undef, undef, undef, undef, undef, v6, v7, v8, undef, undef, undef, undef, undef, undef, undef, v16, v17, v18, v19, v20, v21, v22, v23, undef, undef, undef, undef, undef, undef, undef, undef, undef, undef, undef, undef, undef, undef, undef, undef, undef, undef, undef, undef, undef, undef, undef, undef, undef, undef, undef, undef, undef, undef, undef, undef, undef, undef, undef, undef, undef, undef, undef, undef, undef, undef, undef, undef, undef, undef, undef, undef, undef, undef, undef, undef, undef, undef, undef, undef, undef, undef, undef, undef, undef, undef, undef, undef, undef, undef, undef, undef, undef, undef, undef, undef, undef, undef, undef, undef, undef, undef, undef, undef, y 104, y 105, y 106, y 107, y 108, y 109, y 110, y 111, y 112, y 113, y 114, y 115, y 116, y 117, y 118, y 119, y 120, y 121, undef, undef, undef, undef, undef, undef, y 128, y 129, y 130, y 131, y 132, y 133, y 134, y 135, y 136, y 137, y 138, y 139, y 140, y 141, y 142, y 143, y 144, y 145, y 146, y 147, y 148, y 149, y 150, y 151, y 152, y 153, y 154, y 155, y 156]
def z7 (x : Nat → Value) (v0 v1 v9 v15 : Value) : List (Nat × Value) := [(0, v0), (1, v1), (2, x 2), (3, x 3), (4, x 4), (5, x 5), (9, v9), (10, x 10), (11, x 11), (12, x 12), (13, x 13), (14, x 14), (15, v15), (24, x 24), (25, x 25), (26, x 26), (27, x 27), (28, x 28), (29, x 29), (30, x 30), (31, x 31), (32, x 32), (33, x 33), (34, x 34), (35, x 35), (36, x 36), (37, x 37), (38, x 38), (39, x 39), (40, x 40), (41, x 41), (42, x 42), (43, x 43), (44, x 44), (45, x 45), (46, x 46), (47, x 47), (48, x 48), (49, x 49), (50, x 50), (51, x 51), (52, x 52), (53, x 53), (54, x 54), (55, x 55), (56, x 56), (57, x 57), (58, x 58), (59, x 59), (60, x 60), (61, x 61), (62, x 62), (63, x 63), (64, x 64), (65, x 65), (66, x 66), (67, x 67), (68, x 68), (69, x 69), (70, x 70), (71, x 71), (72, x 72), (73, x 73), (74, x 74), (75, x 75), (76, x 76), (77, x 77), (78, x 78), (79, x 79), (80, x 80), (81, x 81), (82, x 82), (83, x 83), (84, x 84), (85, x 85), (86, x 86), (87, x 87), (88, x 88), (89, x 89), (90, x 90), (91, x 91), (92, x 92), (93, x 93), (94, x 94), (95, x 95), (96, x 96), (97, x 97), (98, x 98), (99, x 99), (100, x 100), (101, x 101), (102, x 102), (103, x 103), (122, x 122), (123, x 123), (124, x 124), (125, x 125), (126, x 126), (127, x 127)]
theorem avr7 {G : FuncId → Prop} {R : BR} {y : Nat → Value} {v6 v7 v8 v16 v17 v18 v19 v20 v21 v22 v23 : Value} (h6 : VR G R v6 v6) (h7 : VR G R v7 v7) (h8 : VR G R v8 v8) (h16 : VR G R v16 v16) (h17 : VR G R v17 v17) (h18 : VR G R v18 v18) (h19 : VR G R v19 v19) (h20 : VR G R v20 v20) (h21 : VR G R v21 v21) (h22 : VR G R v22 v22) (h23 : VR G R v23 v23) (hy : ∀ k, VR G R (y k) (y k)) : AVR G R (t7 y v6 v7 v8 v16 v17 v18 v19 v20 v21 v22 v23) (t7 y v6 v7 v8 v16 v17 v18 v19 v20 v21 v22 v23) := avr_all ⟨.undef, .undef, .undef, .undef, .undef, .undef, h6, h7, h8, .undef, .undef, .undef, .undef, .undef, .undef, .undef, h16, h17, h18, h19, h20, h21, h22, h23, .undef, .undef, .undef, .undef, .undef, .undef, .undef, .undef, .undef, .undef, .undef, .undef, .undef, .undef, .undef, .undef, .undef, .undef, .undef, .undef, .undef, .undef, .undef, .undef, .undef, .undef, .undef, .undef, .undef, .undef, .undef, .undef, .undef, .undef, .undef, .undef, .undef, .undef, .undef, .undef, .undef, .undef, .undef, .undef, .undef, .undef, .undef, .undef, .undef, .undef, .undef, .undef, .undef, .undef, .undef, .undef, .undef, .undef, .undef, .undef, .undef, .undef, .undef, .undef, .undef, .undef, .undef, .undef, .undef, .undef, .undef, .undef, .undef, .undef, .undef, .undef, .undef, .undef, .undef, .undef, hy 104, hy 105, hy 106, hy 107, hy 108, hy 109, hy 110, hy 111, hy 112, hy 113, hy 114, hy 115, hy 116, hy 117, hy 118, hy 119, hy 120, hy 121, .undef, .undef, .undef, .undef, .undef, .undef, hy 128, hy 129, hy 130, hy 131, hy 132, hy 133, hy 134, hy 135, hy 136, hy 137, hy 138, hy 139, hy 140, hy 141, hy 142, hy 143, hy 144, hy 145, hy 146, hy 147, hy 148, hy 149, hy 150, hy 151, hy 152, hy 153, hy 154, hy 155, hy 156, trivial⟩
noncomputable def c28 : Code := (nl (nr (nb (nl (nr (nb (nb (nr (nl (nr (nr (nr (nr (nr (nr (nr (nr (nr (nr B6)))))))))))))))))))
noncomputable def iR28 : List Item := [.code (cd [1, 1, 1, 1, 1, 1, 1, 1, 1, 1, 0, 1, 2, 2, 1, 0, 2, 1, 0] B6), .code (cd [1, 1, 1, 1, 1, 1, 1, 1, 1, 1, 0, 1, 2, 2, 1, 0, 2, 1, 1] B6), .inBlock 5, .code (cd [1, 1, 1, 1, 1, 1, 1, 1, 1, 1, 0, 1, 2, 2, 1, 1] B6), .inLoop (cd [1, 1, 1, 1, 1, 1, 1, 1, 1, 1, 0, 1, 2, 2] B6), .inBlock 4, .code (cd [1, 1, 1, 1, 1, 1, 1, 1, 1, 1, 1] B6)]
noncomputable def iB28 : List Item := [.code (cd [1, 1, 1, 1, 1, 1, 1, 1, 1, 1, 0, 1, 2, 2, 1, 0, 2, 1, 1] B6), .inBlock 5, .code (cd [1, 1, 1, 1, 1, 1, 1, 1, 1, 1, 0, 1, 2, 2, 1, 1] B6), .inLoop (cd [1, 1, 1, 1, 1, 1, 1, 1, 1, 1, 0, 1, 2, 2] B6), .inBlock 4, .code (cd [1, 1, 1, 1, 1, 1, 1, 1, 1, 1, 1] B6)]
noncomputable def c29 : Code := (nl (nr (nr (nb (nl (nr (nb (nb (nr (nl (nr (nr (nr (nr (nr (nr (nr (nr (nr (nr B6))))))))))))))))))))
noncomputable def iR29 : List Item := [.code (cd [1, 1, 1, 1, 1, 1, 1, 1, 1, 1, 0, 1, 2, 2, 1, 0, 2, 1, 1, 0] B6), .code (cd [1, 1, 1, 1, 1, 1, 1, 1, 1, 1, 0, 1, 2, 2, 1, 0, 2, 1, 1, 1] B6), .inBlock 5, .code (cd [1, 1, 1, 1, 1, 1, 1, 1, 1, 1, 0, 1, 2, 2, 1, 1] B6), .inLoop (cd [1, 1, 1, 1, 1, 1, 1, 1, 1, 1, 0, 1, 2, 2] B6), .inBlock 4, .code (cd [1, 1, 1, 1, 1, 1, 1, 1, 1, 1, 1] B6)]
noncomputable def iB29 : List Item := [.code (cd [1, 1, 1, 1, 1, 1, 1, 1, 1, 1, 0, 1, 2, 2, 1, 0, 2, 1, 1, 1] B6), .inBlock 5, .code (cd [1, 1, 1, 1, 1, 1, 1, 1, 1, 1, 0, 1, 2, 2, 1, 1] B6), .inLoop (cd [1, 1, 1, 1, 1, 1, 1, 1, 1, 1, 0, 1, 2, 2] B6), .inBlock 4, .code (cd [1, 1, 1, 1, 1, 1, 1, 1, 1, 1, 1] B6)]
noncomputable def c30 : Code := (nl (nl (nr (nr (nr (nb (nl (nr (nb (nb (nr (nl (nr (nr (nr (nr (nr (nr (nr (nr (nr (nr B6))))))))))))))))))))))
noncomputable def iR30 : List Item := [.code (cd [1, 1, 1, 1, 1, 1, 1, 1, 1, 1, 0, 1, 2, 2, 1, 0, 2, 1, 1, 1, 0, 0] B6), .code (cd [1, 1, 1, 1, 1, 1, 1, 1, 1, 1, 0, 1, 2, 2, 1, 0, 2, 1, 1, 1, 0, 1] B6), .code (cd [1, 1, 1, 1, 1, 1, 1, 1, 1, 1, 0, 1, 2, 2, 1, 0, 2, 1, 1, 1, 1] B6), .inBlock 5, .code (cd [1, 1, 1, 1, 1, 1, 1, 1, 1, 1, 0, 1, 2, 2, 1, 1] B6), .inLoop (cd [1, 1, 1, 1, 1, 1, 1, 1, 1, 1, 0, 1, 2, 2] B6), .inBlock 4, .code (cd [1, 1, 1, 1, 1, 1, 1, 1, 1, 1, 1] B6)]
noncomputable def iB30 : List Item := [.code (cd [1, 1, 1, 1, 1, 1, 1, 1, 1, 1, 0, 1, 2, 2, 1, 0, 2, 1, 1, 1, 0, 1] B6), .code (cd [1, 1, 1, 1, 1, 1, 1, 1, 1, 1, 0, 1, 2, 2, 1, 0, 2, 1, 1, 1, 1] B6), .inBlock 5, .code (cd [1, 1, 1, 1, 1, 1, 1, 1, 1, 1, 0, 1, 2, 2, 1, 1] B6), .inLoop (cd [1, 1, 1, 1, 1, 1, 1, 1, 1, 1, 0, 1, 2, 2] B6), .inBlock 4, .code (cd [1, 1, 1, 1, 1, 1, 1, 1, 1, 1, 1] B6)]
noncomputable def c35 : Code := (nl (nb (nl (nr (nb (nb (nr (nr (nr (nr (nr (nb (nl (nr (nb (nb (nr (nl (nr (nr (nr (nr (nr (nr (nr (nr (nr (nr B6))))))))))))))))))))))))))))
noncomputable def iR35 : List Item := [.code (cd [1, 1, 1, 1, 1, 1, 1, 1, 1, 1, 0, 1, 2, 2, 1, 0, 2, 1, 1, 1, 1, 1, 2, 2, 1, 0, 2, 0] B6), .code (cd [1, 1, 1, 1, 1, 1, 1, 1, 1, 1, 0, 1, 2, 2, 1, 0, 2, 1, 1, 1, 1, 1, 2, 2, 1, 0, 2, 1] B6), .inBlock 7, .code (cd [1, 1, 1, 1, 1, 1, 1, 1, 1, 1, 0, 1, 2, 2, 1, 0, 2, 1, 1, 1, 1, 1, 2, 2, 1, 1] B6), .inLoop (cd [1, 1, 1, 1, 1, 1, 1, 1, 1, 1, 0, 1, 2, 2, 1, 0, 2, 1, 1, 1, 1, 1, 2, 2] B6), .inBlock 6, .inBlock 5, .code (cd [1, 1, 1, 1, 1, 1, 1, 1, 1, 1, 0, 1, 2, 2, 1, 1] B6), .inLoop (cd [1, 1, 1, 1, 1, 1, 1, 1, 1, 1, 0, 1, 2, 2] B6), .inBlock 4, .code (cd [1, 1, 1, 1, 1, 1, 1, 1, 1, 1, 1] B6)]
noncomputable def iB35 : List Item := [.code (cd [1, 1, 1, 1, 1, 1, 1, 1, 1, 1, 0, 1, 2, 2, 1, 0, 2, 1, 1, 1, 1, 1, 2, 2, 1, 0, 2, 1] B6), .inBlock 7, .code (cd [1, 1, 1, 1, 1, 1, 1, 1, 1, 1, 0, 1, 2, 2, 1, 0, 2, 1, 1, 1, 1, 1, 2, 2, 1, 1] B6), .inLoop (cd [1, 1, 1, 1, 1, 1, 1, 1, 1, 1, 0, 1, 2, 2, 1, 0, 2, 1, 1, 1, 1, 1, 2, 2] B6), .inBlock 6, .inBlock 5, .code (cd [1, 1, 1, 1, 1, 1, 1, 1, 1, 1, 0, 1, 2, 2, 1, 1] B6), .inLoop (cd [1, 1, 1, 1, 1, 1, 1, 1, 1, 1, 0, 1, 2, 2] B6), .inBlock 4, .code (cd [1, 1, 1, 1, 1, 1, 1, 1, 1, 1, 1] B6)]
noncomputable def c36 : Code := (nl (nr (nb (nl (nr (nb (nb (nr (nr (nr (nr (nr (nb (nl (nr (nb (nb (nr (nl (nr (nr (nr (nr (nr (nr (nr (nr (nr (nr B6)))))))))))))))))))))))))))))
noncomputable def iR36 : List Item := [.code (cd [1, 1, 1, 1, 1, 1, 1, 1, 1, 1, 0, 1, 2, 2, 1, 0, 2, 1, 1, 1, 1, 1, 2, 2, 1, 0, 2, 1, 0] B6), .code (cd [1, 1, 1, 1, 1, 1, 1, 1, 1, 1, 0, 1, 2, 2, 1, 0, 2, 1, 1, 1, 1, 1, 2, 2, 1, 0, 2, 1, 1] B6), .inBlock 7, .code (cd [1, 1, 1, 1, 1, 1, 1, 1, 1, 1, 0, 1, 2, 2, 1, 0, 2, 1, 1, 1, 1, 1, 2, 2, 1, 1] B6), .inLoop (cd [1, 1, 1, 1, 1, 1, 1, 1, 1, 1, 0, 1, 2, 2, 1, 0, 2, 1, 1, 1, 1, 1, 2, 2] B6), .inBlock 6, .inBlock 5, .code (cd [1, 1, 1, 1, 1, 1, 1, 1, 1, 1, 0, 1, 2, 2, 1, 1] B6), .inLoop (cd [1, 1, 1, 1, 1, 1, 1, 1, 1, 1, 0, 1, 2, 2] B6), .inBlock 4, .code (cd [1, 1, 1, 1, 1, 1, 1, 1, 1, 1, 1] B6)]
noncomputable def iB36 : List Item := [.code (cd [1, 1, 1, 1, 1, 1, 1, 1, 1, 1, 0, 1, 2, 2, 1, 0, 2, 1, 1, 1, 1, 1, 2, 2, 1, 0, 2, 1, 1] B6), .inBlock 7, .code (cd [1, 1, 1, 1, 1, 1, 1, 1, 1, 1, 0, 1, 2, 2, 1, 0, 2, 1, 1, 1, 1, 1, 2, 2, 1, 1] B6), .inLoop (cd [1, 1, 1, 1, 1, 1, 1, 1, 1, 1, 0, 1, 2, 2, 1, 0, 2, 1, 1, 1, 1, 1, 2, 2] B6), .inBlock 6, .inBlock 5, .code (cd [1, 1, 1, 1, 1, 1, 1, 1, 1, 1, 0, 1, 2, 2, 1, 1] B6), .inLoop (cd [1, 1, 1, 1, 1, 1, 1, 1, 1, 1, 0, 1, 2, 2] B6), .inBlock 4, .code (cd [1, 1, 1, 1, 1, 1, 1, 1, 1, 1, 1] B6)]
noncomputable def c37 : Code := (nl (nr (nr (nb (nl (nr (nb (nb (nr (nr (nr (nr (nr (nb (nl (nr (nb (nb (nr (nl (nr (nr (nr (nr (nr (nr (nr (nr (nr (nr B6))))))))))))))))))))))))))))))
noncomputable def iR37 : List Item := [.code (cd [1, 1, 1, 1, 1, 1, 1, 1, 1, 1, 0, 1, 2, 2, 1, 0, 2, 1, 1, 1, 1, 1, 2, 2, 1, 0, 2, 1, 1, 0] B6), .code (cd [1, 1, 1, 1, 1, 1, 1, 1, 1, 1, 0, 1, 2, 2, 1, 0, 2, 1, 1, 1, 1, 1, 2, 2, 1, 0, 2, 1, 1, 1] B6), .inBlock 7, .code (cd [1, 1, 1, 1, 1, 1, 1, 1, 1, 1, 0, 1, 2, 2, 1, 0, 2, 1, 1, 1, 1, 1, 2, 2, 1, 1] B6), .inLoop (cd [1, 1, 1, 1, 1, 1, 1, 1, 1, 1, 0, 1, 2, 2, 1, 0, 2, 1, 1, 1, 1, 1, 2, 2] B6), .inBlock 6, .inBlock 5, .code (cd [1, 1, 1, 1, 1, 1, 1, 1, 1, 1, 0, 1, 2, 2, 1, 1] B6), .inLoop (cd [1, 1, 1, 1, 1, 1, 1, 1, 1, 1, 0, 1, 2, 2] B6), .inBlock 4, .code (cd [1, 1, 1, 1, 1, 1, 1, 1, 1, 1, 1] B6)]
noncomputable def iB37 : List Item := [.code (cd [1, 1, 1, 1, 1, 1, 1, 1, 1, 1, 0, 1, 2, 2, 1, 0, 2, 1, 1, 1, 1, 1, 2, 2, 1, 0, 2, 1, 1, 1] B6), .inBlock 7, .code (cd [1, 1, 1, 1, 1, 1, 1, 1, 1, 1, 0, 1, 2, 2, 1, 0, 2, 1, 1, 1, 1, 1, 2, 2, 1, 1] B6), .inLoop (cd [1, 1, 1, 1, 1, 1, 1, 1, 1, 1, 0, 1, 2, 2, 1, 0, 2, 1, 1, 1, 1, 1, 2, 2] B6), .inBlock 6, .inBlock 5, .code (cd [1, 1, 1, 1, 1, 1, 1, 1, 1, 1, 0, 1, 2, 2, 1, 1] B6), .inLoop (cd [1, 1, 1, 1, 1, 1, 1, 1, 1, 1, 0, 1, 2, 2] B6), .inBlock 4, .code (cd [1, 1, 1, 1, 1, 1, 1, 1, 1, 1, 1] B6)]
noncomputable def iG6 : List Item := [.code (cd [1, 1, 1, 1, 1, 1, 1, 1, 1, 1, 0, 1, 2, 2, 1, 0, 2, 1, 1, 1, 1, 1, 2, 2] B6), .inLoop (cd [1, 1, 1, 1, 1, 1, 1, 1, 1, 1, 0, 1, 2, 2, 1, 0, 2, 1, 1, 1, 1, 1, 2, 2] B6), .inBlock 6, .inBlock 5, .code (cd [1, 1, 1, 1, 1, 1, 1, 1, 1, 1, 0, 1, 2, 2, 1, 1] B6), .inLoop (cd [1, 1, 1, 1, 1, 1, 1, 1, 1, 1, 0, 1, 2, 2] B6), .inBlock 4, .code (cd [1, 1, 1, 1, 1, 1, 1, 1, 1, 1, 1] B6)]

section
variable {w : World} {xb yb n : Nat} {c : Nat → Nat} {g : Nat} {y : Nat → Value} {v6 v7 v8 v16 v17 v18 v19 v20 v21 v22 v23 : Value}
set_option maxRecDepth 100000 in
theorem wp28 (HS : Hid (Calls Try.prog 22 #[.pointer (some ⟨xb, 0, none⟩)] w fun e w' => e = .returned (.agg #[.int .i64 (c 0), .int .i64 (c 1), .int .i64 (c 2), .int .i64 (c 3), .int .i64 (c 4), .int .i64 g]) ∧ Below w.heap.size w w')) {Q : Exit → Act → World → Prop} (hQ : Q = fun e a' w' => e = .normal ∧ ∃ b, a'.tmps = t7 (yF a'.tmps) v6 (ptr xb) v8 v16 (ptr b) v18 v19 v20 v21 v22 v23 ∧ w'.heap[b]? = some (shp c g) ∧ Bel w w') :
    c28.wp Try.prog Q ⟨t7 y v6 (ptr xb) v8 v16 v17 v18 v19 v20 v21 v22 v23, []⟩ w := by
  unfold c28 B6 Try.f6 t7
  dsimp only [nl, nr, nb, nt, ne, Option.getD]
  go_wp2_with (go_at_call 22; refine HS.out.mono ?_; rintro e w1 ⟨rfl, hb⟩)
  rw [hQ]
  exact ⟨rfl, w1.heap.size, by kernel_rfl, heap_alloc_new w1 _, ⟨Nat.le_trans hb.size (by simp), fun b hb' => (Go.heap_alloc_old w1 _ (Nat.lt_of_lt_of_le hb' hb.size)).trans (hb.block b hb'), hb.os, hb.output⟩⟩
set_option maxRecDepth 100000 in
theorem wp29 (HS : Hid (Calls Try.prog 22 #[.pointer (some ⟨yb, 0, none⟩)] w fun e w' => e = .returned (.agg #[.int .i64 (c 0), .int .i64 (c 1), .int .i64 (c 2), .int .i64 (c 3), .int .i64 (c 4), .int .i64 g]) ∧ Below w.heap.size w w')) {Q : Exit → Act → World → Prop} (hQ : Q = fun e a' w' => e = .normal ∧ ∃ b, a'.tmps = t7 (yF a'.tmps) v6 v7 (ptr yb) v16 v17 (ptr b) v19 v20 v21 v22 v23 ∧ w'.heap[b]? = some (shp c g) ∧ Bel w w') :
    c29.wp Try.prog Q ⟨t7 y v6 v7 (ptr yb) v16 v17 v18 v19 v20 v21 v22 v23, []⟩ w := by
  unfold c29 B6 Try.f6 t7
  dsimp only [nl, nr, nb, nt, ne, Option.getD]
  go_wp2_with (go_at_call 22; refine HS.out.mono ?_; rintro e w1 ⟨rfl, hb⟩)
  rw [hQ]
  exact ⟨rfl, w1.heap.size, by kernel_rfl, heap_alloc_new w1 _, ⟨Nat.le_trans hb.size (by simp), fun b hb' => (Go.heap_alloc_old w1 _ (Nat.lt_of_lt_of_le hb' hb.size)).trans (hb.block b hb'), hb.os, hb.output⟩⟩
set_option maxRecDepth 100000 in
theorem wp30 {a1 a2 : Nat} {m : Int} (h1 : w.heap[a1]? = some (shp c g)) (h2 : w.heap[a2]? = some (shp c g)) (H1 : Hid (Calls Try.prog 23 #[.pointer (some ⟨xb, 0, none⟩)] w fun e w' => e = .returned (.int .i64 m) ∧ w' = w)) (H2 : Hid (Calls Try.prog 23 #[.pointer (some ⟨yb, 0, none⟩)] w fun e w' => e = .returned (.int .i64 m) ∧ w' = w)) (hne : xb ≠ yb) {Q : Exit → Act → World → Prop} (hQ : Q = fun e a' w' => e = .normal ∧ a'.tmps = t7 (yF a'.tmps) v6 (ptr xb) (ptr yb) (.int .i64 0) (ptr a1) (ptr a2) v19 v20 v21 v22 v23 ∧ yF a'.tmps 121 = .bool false ∧ w' = w) :
    c30.wp Try.prog Q ⟨t7 y v6 (ptr xb) (ptr yb) (.int .i64 0) (ptr a1) (ptr a2) v19 v20 v21 v22 v23, []⟩ w := by
  have e0 : w.cell? ⟨a1, 0, none⟩ = some (.int .i64 (c 0)) ∧ w.cell? ⟨a1, 1, none⟩ = some (.int .i64 (c 1)) ∧ w.cell? ⟨a1, 2, none⟩ = some (.int .i64 (c 2)) ∧ w.cell? ⟨a1, 3, none⟩ = some (.int .i64 (c 3)) ∧ w.cell? ⟨a1, 4, none⟩ = some (.int .i64 (c 4)) ∧ w.cell? ⟨a1, 5, none⟩ = some (.int .i64 g) := by simp [World.cell?, h1, shp]
  have f0 : w.cell? ⟨a2, 0, none⟩ = some (.int .i64 (c 0)) ∧ w.cell? ⟨a2, 1, none⟩ = some (.int .i64 (c 1)) ∧ w.cell? ⟨a2, 2, none⟩ = some (.int .i64 (c 2)) ∧ w.cell? ⟨a2, 3, none⟩ = some (.int .i64 (c 3)) ∧ w.cell? ⟨a2, 4, none⟩ = some (.int .i64 (c 4)) ∧ w.cell? ⟨a2, 5, none⟩ = some (.int .i64 g) := by simp [World.cell?, h2, shp]
  obtain ⟨e0, e1, e2, e3, e4, e5⟩ := e0
  obtain ⟨f0, f1, f2, f3, f4, f5⟩ := f0
  clear h1 h2
  unfold c30 B6 Try.f6 t7
  dsimp only [nl, nr, nb, nt, ne, Option.getD]
  go_wp2_with (first
    | (go_at_call_of 23 (ptr xb); refine H1.out.mono ?_; rintro e w1 ⟨rfl, rfl⟩)
    | (go_at_call_of 23 (ptr yb); refine H2.out.mono ?_; rintro e w1 ⟨rfl, rfl⟩))
  rw [hQ]
  exact ⟨rfl, by kernel_rfl, by kernel_rfl, rfl⟩
set_option maxRecDepth 100000 in
theorem wp35 {lb lc i : Nat} {s : ByteArray} {px py : Int} {pn : ByteArray} (hc : w.cell? ⟨lb, i, none⟩ = some (.string s)) (hi : i < n) (HG : Hid (Calls Try.prog 24 #[.pointer (some ⟨xb, 0, none⟩), .string s] w fun e w' => e = .returned (.tuple #[.agg #[.int .i64 px, .int .i64 py, .string pn], .bool true]) ∧ Below w.heap.size w w')) {Q : Exit → Act → World → Prop} (hQ : Q = fun e a' w' => e = .normal ∧ ∃ b, a'.tmps = t7 (yF a'.tmps) (.slice (some ⟨lb, 0, none⟩) n lc) (ptr xb) v8 v16 v17 v18 (.int .i64 (i : Int)) (ptr b) (.bool true) v22 v23 ∧ w'.heap[b]? = some (pbox (px, py, pn)) ∧ Bel w w') :
    c35.wp Try.prog Q ⟨t7 y (.slice (some ⟨lb, 0, none⟩) n lc) (ptr xb) v8 v16 v17 v18 (.int .i64 (i : Int)) v20 v21 v22 v23, []⟩ w := by
  have hb0 : (0 : Int) ≤ (i : Int) := Int.natCast_nonneg _
  have hb1 : (i : Int) < (n : Int) := by omega
  unfold c35 B6 Try.f6 t7
  dsimp only [nl, nr, nb, nt, ne, Option.getD]
  go_wp2_with (go_at_call 24; refine HG.out.mono ?_; rintro e w1 ⟨rfl, hb⟩)
  rw [hQ]
  exact ⟨rfl, w1.heap.size, by kernel_rfl, heap_alloc_new w1 _, ⟨Nat.le_trans hb.size (by simp), fun b hb' => (Go.heap_alloc_old w1 _ (Nat.lt_of_lt_of_le hb' hb.size)).trans (hb.block b hb'), hb.os, hb.output⟩⟩
set_option maxRecDepth 100000 in
theorem wp36 {lb lc i : Nat} {s : ByteArray} {px py : Int} {pn : ByteArray} (hc : w.cell? ⟨lb, i, none⟩ = some (.string s)) (hi : i < n) (HG : Hid (Calls Try.prog 24 #[.pointer (some ⟨yb, 0, none⟩), .string s] w fun e w' => e = .returned (.tuple #[.agg #[.int .i64 px, .int .i64 py, .string pn], .bool true]) ∧ Below w.heap.size w w')) {Q : Exit → Act → World → Prop} (hQ : Q = fun e a' w' => e = .normal ∧ ∃ b, a'.tmps = t7 (yF a'.tmps) (.slice (some ⟨lb, 0, none⟩) n lc) v7 (ptr yb) v16 v17 v18 (.int .i64 (i : Int)) v20 v21 (ptr b) (.bool true) ∧ w'.heap[b]? = some (pbox (px, py, pn)) ∧ Bel w w') :
    c36.wp Try.prog Q ⟨t7 y (.slice (some ⟨lb, 0, none⟩) n lc) v7 (ptr yb) v16 v17 v18 (.int .i64 (i : Int)) v20 v21 v22 v23, []⟩ w := by
  have hb0 : (0 : Int) ≤ (i : Int) := Int.natCast_nonneg _
  have hb1 : (i : Int) < (n : Int) := by omega
  unfold c36 B6 Try.f6 t7
  dsimp only [nl, nr, nb, nt, ne, Option.getD]
  go_wp2_with (go_at_call 24; refine HG.out.mono ?_; rintro e w1 ⟨rfl, hb⟩)
  rw [hQ]
  exact ⟨rfl, w1.heap.size, by kernel_rfl, heap_alloc_new w1 _, ⟨Nat.le_trans hb.size (by simp), fun b hb' => (Go.heap_alloc_old w1 _ (Nat.lt_of_lt_of_le hb' hb.size)).trans (hb.block b hb'), hb.os, hb.output⟩⟩
set_option maxRecDepth 100000 in
theorem wp37 {a1 a2 : Nat} {px py : Int} {pn : ByteArray} (h1 : w.heap[a1]? = some (pbox (px, py, pn))) (h2 : w.heap[a2]? = some (pbox (px, py, pn))) {Q : Exit → Act → World → Prop} (hQ : Q = fun e a' w' => e = .normal ∧ a'.tmps = t7 (yF a'.tmps) v6 v7 v8 v16 v17 v18 v19 (ptr a1) (.bool true) (ptr a2) (.bool true) ∧ yF a'.tmps 156 = .bool false ∧ w' = w) :
    c37.wp Try.prog Q ⟨t7 y v6 v7 v8 v16 v17 v18 v19 (ptr a1) (.bool true) (ptr a2) (.bool true), []⟩ w := by
  obtain ⟨e0, e1, e2⟩ := pbox_cells h1
  obtain ⟨f0, f1, f2⟩ := pbox_cells h2
  clear h1 h2
  dsimp only at e0 e1 e2 f0 f1 f2
  unfold c37 B6 Try.f6 t7
  dsimp only [nl, nr, nb, nt, ne, Option.getD]
  go_wp2
  rw [hQ]
  exact ⟨rfl, by kernel_rfl, by kernel_rfl, rfl⟩
end
end Go.Proofs.Ytcgjppacnhmjlaa.Sim
end

section
set_option linter.unusedVariables false
set_option linter.unusedSimpArgs false
set_option linter.unusedSectionVars false
/-! The law's own function: what there is between the turns. -/
namespace Go.Proofs.Ytcgjppacnhmjlaa.Sim
open Go Go.Conc Go.ConcN Go.Conc.Lib Go.ConcR.Gen Go.RowKit
set_option linter.unusedVariables false
set_option linter.unusedSectionVars false
set_option linter.unusedSimpArgs false

/-- Between the turns. -/
structure P2 (O : Nat → Prop) (w0 : World) (ss : List ByteArray) (xb yb : Nat) (la : Option Addr) (Pb : Nat) (vs : List Value) (pss : List (List PP)) (Ly : List KV) (R : BR) (w : World) : Prop where
  known : Known Xm O R w
  bel : Bel w0 w
  keys : StrO w la ss
  kl : ∀ a, la = some a → R a.block a.block ∧ a.block ≠ yb
  x : IndexAt (fun k => k ≠ xb ∧ k ≠ yb) w xb (puts (prs ss) [])
  y : IndexAt (fun k => k ≠ xb ∧ k ≠ yb) w yb Ly
  vx : R xb xb
  vy : R yb yb
  low : w0.heap.size ≤ xb ∧ w0.heap.size ≤ yb ∧ xb ≠ yb
  parts : PartsAt (fun b => R b b ∧ w0.heap.size ≤ b ∧ b ≠ xb ∧ b ≠ yb) w Pb 0 vs pss
  sum : pss.flatten = prs ss
  newO : ∀ b, O b → w0.heap.size ≤ b

section
variable {S O O' : Nat → Prop} {w0 : World} {ss : List ByteArray} {xb yb : Nat} {la : Option Addr} {Pb : Nat} {vs : List Value} {pss : List (List PP)} {Ly : List KV} {R R1 R' : BR} {w w1 w' : World} {psv : Value} {lc : Nat}

theorem P1.turn (h : P1 S O w0 ss xb yb (.slice la ss.length lc) psv (.slice none 0 0) ss.length ss.length vs pss [] R w) (hpos : 0 < vs.length) (h16 : vs.length ≤ 16) (hss : ∀ s ∈ ss, s.size ≤ 64) (hn : ss.length ≤ 300) (hO : ∀ b, O b → w0.heap.size ≤ b) : ∃ Pb cap, psv = .slice (some ⟨Pb, 0, none⟩) vs.length cap ∧ P2 O w0 ss xb yb la Pb vs pss [] R w := by
  obtain ⟨Pb, cap, e, hpb, hP⟩ := h.parts hpos h16 hss (by omega)
  have hall : (prs ss).take ss.length = prs ss := List.take_of_length_le (by rw [prs_len]; exact Nat.le_refl _)
  have hS : ∀ k, S k → k < w.heap.size → k ≠ xb ∧ k ≠ yb := fun k hk _ => ⟨fun e => h.x.out (e ▸ hk), fun e => h.y.out (e ▸ hk)⟩
  refine ⟨Pb, cap, e, { known := h.known, bel := h.bel, keys := fun i s hs => ?_, kl := fun a ha => ?_, x := ?_, y := h.y.weaken hS fun x => x.2 rfl, vx := h.vx, vy := h.vy, low := h.low, parts := hP, sum := by have := h.sum; rw [hall] at this; simpa using this, newO := hO }⟩
  · have hpos : 0 < ss.length := by have := (List.getElem?_eq_some_iff.1 hs).1; omega
    obtain ⟨lb, rfl⟩ := h.l.some hpos
    exact ⟨lb, 0, rfl, by rw [Nat.zero_add]; exact h.l.cell1 (str_get hs)⟩
  · subst ha
    rcases h.l.2 with ⟨q, _⟩ | ⟨g, cp, cur, q, q2, q3, _⟩
    · cases q
    · cases q
      refine ⟨vr_slice_block h.known.diag h.vl, fun e => ?_⟩
      exact index_row h.y h.l (by decide) (by rw [← e]; rfl)
  · have := h.x
    rw [hall] at this
    exact this.weaken hS fun x => x.1 rfl
/-- Blocks more. -/
theorem P2.on (h : P2 O w0 ss xb yb la Pb vs pss Ly R w) (hb : Bel w w') (hK : Known Xm O R' w') (hR : BR.Sub R R') : P2 O w0 ss xb yb la Pb vs pss Ly R' w' :=
  { known := hK, bel := h.bel.trans hb, keys := fun i s hs => by obtain ⟨k, o, e1, e2⟩ := h.keys i s hs; exact ⟨k, o, e1, hb.cell e2⟩, kl := fun a ha => ⟨hR _ _ (h.kl a ha).1, (h.kl a ha).2⟩, x := index_bel h.x hb, y := index_bel h.y hb, vx := hR _ _ h.vx, vy := hR _ _ h.vy, low := h.low, parts := h.parts.keep (fun b hb' => ⟨hR _ _ hb'.1, hb'.2⟩) fun b hb' => .of_eq (hb.block b (h.known.wr.lt hb'.1).1), sum := h.sum, newO := h.newO }
theorem P2.partsR (h : P2 O w0 ss xb yb la Pb vs pss Ly R w) : PartsAt (fun b => R b b) w Pb 0 vs pss := h.parts.keep (fun b hb => hb.1) fun b _ => .of_eq rfl
/-- Fill. -/
theorem P2.fill (h : P2 O w0 ss xb yb la Pb vs pss Ly R w) (hL : Left vs O O' R R1 w w1) (hK : Known Xm O' R' w') (hR : BR.Sub R1 R') (hB : ButH yb w1 w') (hI : IndexAt (fun k => k ≠ xb ∧ k ≠ yb) w' yb (puts pss.flatten Ly)) : P2 O' w0 ss xb yb la Pb vs pss (puts (prs ss) Ly) R' w' := by
  have hg : GrH (some yb) w1 w' := ⟨hB.size, fun k hk hn => hB.block k hk fun e => hn (by rw [e]), hB.os, hB.output⟩
  have hsame : ∀ b, R b b → b ≠ yb → SameC w w' b := fun b hb hne => (hL.sameR h.known b hb).trans (.of_eq (hB.block b (Nat.lt_of_lt_of_le (h.known.wr.lt hb).1 hL.size) hne))
  refine { known := hK, bel := ⟨Nat.le_trans h.bel.size (Nat.le_trans hL.size hB.size), fun b hb => ?_, hB.os.trans (hL.os.trans h.bel.os), hB.output.trans (hL.output.trans h.bel.output)⟩, keys := fun i s hs => ?_, kl := fun a ha => ⟨hR _ _ (hL.sub _ _ (h.kl a ha).1), (h.kl a ha).2⟩, x := index_grh (left_index h.known h.partsR hL h.vx h.x) hg (fun b e => by cases e; exact fun x => x.2 rfl) (fun e => by cases e; exact h.low.2.2 rfl), y := by rw [← h.sum]; exact hI, vx := hR _ _ (hL.sub _ _ h.vx), vy := hR _ _ (hL.sub _ _ h.vy), low := h.low, parts := h.parts.keep (fun b hb => ⟨hR _ _ (hL.sub _ _ hb.1), hb.2⟩) fun b hb => hsame b hb.1 hb.2.2.2, sum := h.sum, newO := fun b hb => (hL.fresh b hb).elim (h.newO b) fun e => Nat.le_trans h.bel.size e }
  · have hlt : b < w.heap.size := Nat.lt_of_lt_of_le hb h.bel.size
    have hno : ¬ O b := fun x => by have := h.newO b x; omega
    have hin : ∀ v ∈ vs, ¬ InS v b := by
      intro v hv ⟨o, l, c, e⟩
      obtain ⟨j, hj⟩ := List.getElem?_of_mem hv
      have hj2 : j < pss.length := by rw [h.parts.len.2]; exact (List.getElem?_eq_some_iff.1 hj).1
      rcases h.parts.parts j v _ hj (List.getElem?_eq_getElem hj2) with ⟨_, q⟩ | ⟨k, o', cp, c', e', f', p1, p2, _⟩
      · rw [q] at e; cases e
      · rw [p2] at e; cases e
        have := p1.2.1
        omega
    rw [hB.block b (Nat.lt_of_lt_of_le hlt hL.size) (by have := h.low.2.1; omega), hL.exact b hlt hno hin]
    exact h.bel.block b hb
  · obtain ⟨k, o, e1, e2⟩ := h.keys i s hs
    have := h.kl _ e1
    exact ⟨k, o, e1, same_cell (hsame k this.1 this.2) e2⟩
end

/-- Every key that was put is there. -/
theorem puts_has {κ : List UInt8} : ∀ (ps : List PP) (l : List KV), ((∃ e ∈ l, e.1 = κ) ∨ ∃ q ∈ ps, kof q.1 = κ) → ∃ e ∈ puts ps l, e.1 = κ
  | [], l, h => h.elim id (by rintro ⟨q, h, _⟩; cases h)
  | p :: ps, l, h => puts_has ps (ins (kof p.1) p.2 l) (by
    rcases h with ⟨e, he, rfl⟩ | ⟨q, hq, hk⟩
    · by_cases hh : e.1 = kof p.1
      · exact .inl ⟨(kof p.1, p.2), mem_ins.2 (.inl rfl), hh.symm⟩
      · exact .inl ⟨e, mem_ins.2 (.inr ⟨he, hh⟩), rfl⟩
    · rcases List.mem_cons.1 hq with rfl | hq
      · exact .inl ⟨(kof q.1, q.2), mem_ins.2 (.inl rfl), hk⟩
      · exact .inr ⟨q, hq, hk⟩)
theorem lk_prs {ss : List ByteArray} {i : Nat} {s : ByteArray} (hs : ss[i]? = some s) : ∃ u, lk (kof s) (puts (prs ss) []) = some u := by
  obtain ⟨⟨k, u⟩, he, hk⟩ := puts_has (κ := kof s) (prs ss) [] (.inr ⟨prOf i s, List.mem_of_getElem? (prs_get hs), rfl⟩)
  dsimp only at hk
  subst hk
  exact ⟨u, lk_some (srt_puts (by simp [Srt])) he⟩
theorem puts_self (ps : List PP) : puts ps (puts ps []) = puts ps [] := by
  have h := srt_puts (ps := ps) (l := []) (by simp [Srt])
  rw [← puts_uni' ps h]
  exact uni_self h
end Go.Proofs.Ytcgjppacnhmjlaa.Sim
end
