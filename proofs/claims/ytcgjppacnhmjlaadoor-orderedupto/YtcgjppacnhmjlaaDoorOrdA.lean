/- fitted and order. -/
import Derived.Test.YtcgjppacnhmjlaaDoorTupO
set_option linter.unusedVariables false
set_option linter.unusedSimpArgs false
namespace Go.Proofs.YtcgjppacnhmjlaaDoor
open Go.RowKit Go.Shelf
attribute [local go_sem ↓] Go.wp_at_zero Go.wp_at_succ

/-- A value of a kind, by a raw one. -/
def fitD (k : Int) (v : ValD) : ValD :=
  if k = 1 then ⟨v.u % 256, 0, []⟩ else if k = 2 then ⟨v.u % 65536, 0, []⟩ else if k = 3 then ⟨v.u % 4294967296, 0, []⟩ else if k = 4 then ⟨v.u, 0, []⟩
  else if k = 5 then ⟨0, (v.i + 128) % 256 - 128, []⟩ else if k = 6 then ⟨0, (v.i + 32768) % 65536 - 32768, []⟩ else if k = 7 then ⟨0, (v.i + 2147483648) % 4294967296 - 2147483648, []⟩ else if k = 8 then ⟨0, v.i, []⟩ else ⟨0, 0, v.s⟩
theorem fitD_fit {k : Int} {v : ValD} (hk : 1 ≤ k ∧ k ≤ 9) (hv : ValOk v) : FitV k (fitD k v) ∧ (fitD k v).s.length ≤ v.s.length := by
  obtain ⟨h1, h2, h3⟩ := hv
  have : k = 1 ∨ k = 2 ∨ k = 3 ∨ k = 4 ∨ k = 5 ∨ k = 6 ∨ k = 7 ∨ k = 8 ∨ k = 9 := by omega
  rcases this with rfl | rfl | rfl | rfl | rfl | rfl | rfl | rfl | rfl <;> simp [fitD, FitV, widthOf] <;> omega
theorem wrap_i8 (i : Int) : wrap64 (IntKind.i8.wrap i) = (i + 128) % 256 - 128 := by
  simp only [IntKind.wrap, IntKind.signed, IntKind.bits, wrap64]
  simp
  split <;> omega
theorem wrap_i16 (i : Int) : wrap64 (IntKind.i16.wrap i) = (i + 32768) % 65536 - 32768 := by
  simp only [IntKind.wrap, IntKind.signed, IntKind.bits, wrap64]
  simp
  split <;> omega
theorem wrap_i32 (i : Int) : wrap64 (wrap32 i) = (i + 2147483648) % 4294967296 - 2147483648 := by
  unfold wrap64 wrap32
  omega
set_option maxRecDepth 100000 in
set_option maxHeartbeats 2000000 in
theorem fitted_any (k : Int) (v : ValD) (w : World) (hk : 1 ≤ k ∧ k ≤ 9) (hv : ValOk v) : Calls Tryd.prog 9 #[.int .i64 k, valV v] w fun e w' => e = .returned (valV (fitD k v)) ∧ Below w.heap.size w w' := by
  obtain ⟨u, i, t⟩ := v
  obtain ⟨h1, h2, h3⟩ := hv
  dsimp only at h1 h2 h3
  have hb : ∀ a b, Below w.heap.size w ((w.alloc a).alloc b) := fun a b => (belowA w a).alloc (belowA w a).size _
  have : k = 1 ∨ k = 2 ∨ k = 3 ∨ k = 4 ∨ k = 5 ∨ k = 6 ∨ k = 7 ∨ k = 8 ∨ k = 9 := by omega
  unfold valV
  dsimp only
  rcases this with rfl | rfl | rfl | rfl | rfl | rfl | rfl | rfl | rfl
  · go_enter Tryd.func9, Tryd.ntmps9
    go_wp2
    refine bodyPost_ret (v := .agg #[.int .u64 ((u : Int) % 256), .int .i64 0, .string ⟨#[]⟩]) (by simp [results, Tryd.results9, go_sem]) rfl ⟨?_, hb _ _⟩
    rfl
  · go_enter Tryd.func9, Tryd.ntmps9
    go_wp2
    refine bodyPost_ret (v := .agg #[.int .u64 ((u : Int) % 65536), .int .i64 0, .string ⟨#[]⟩]) (by simp [results, Tryd.results9, go_sem]) rfl ⟨?_, hb _ _⟩
    rfl
  · go_enter Tryd.func9, Tryd.ntmps9
    go_wp2
    refine bodyPost_ret (v := .agg #[.int .u64 ((u : Int) % 4294967296), .int .i64 0, .string ⟨#[]⟩]) (by simp [results, Tryd.results9, go_sem]) rfl ⟨?_, hb _ _⟩
    rfl
  · go_enter Tryd.func9, Tryd.ntmps9
    go_wp2
    refine bodyPost_ret (v := .agg #[.int .u64 u, .int .i64 0, .string ⟨#[]⟩]) (by simp [results, Tryd.results9, go_sem]) rfl ⟨?_, hb _ _⟩
    rfl
  · go_enter Tryd.func9, Tryd.ntmps9
    go_wp2
    have hw : wrap64 (IntKind.i8.wrap i) = (i + 128) % 256 - 128 := wrap_i8 i
    refine bodyPost_ret (v := .agg #[.int .u64 0, .int .i64 ((i + 128) % 256 - 128), .string ⟨#[]⟩]) (by simp [results, Tryd.results9, go_sem, hw]) rfl ⟨rfl, hb _ _⟩
  · go_enter Tryd.func9, Tryd.ntmps9
    go_wp2
    have hw : wrap64 (IntKind.i16.wrap i) = (i + 32768) % 65536 - 32768 := wrap_i16 i
    refine bodyPost_ret (v := .agg #[.int .u64 0, .int .i64 ((i + 32768) % 65536 - 32768), .string ⟨#[]⟩]) (by simp [results, Tryd.results9, go_sem, hw]) rfl ⟨rfl, hb _ _⟩
  · go_enter Tryd.func9, Tryd.ntmps9
    go_wp2
    have hw : wrap64 (wrap32 i) = (i + 2147483648) % 4294967296 - 2147483648 := wrap_i32 i
    refine bodyPost_ret (v := .agg #[.int .u64 0, .int .i64 ((i + 2147483648) % 4294967296 - 2147483648), .string ⟨#[]⟩]) (by simp [results, Tryd.results9, go_sem, hw]) rfl ⟨rfl, hb _ _⟩
  · go_enter Tryd.func9, Tryd.ntmps9
    go_wp2
    refine bodyPost_ret (v := .agg #[.int .u64 0, .int .i64 i, .string ⟨#[]⟩]) (by simp [results, Tryd.results9, go_sem]) rfl ⟨?_, hb _ _⟩
    rfl
  · go_enter Tryd.func9, Tryd.ntmps9
    go_wp2
    refine bodyPost_ret (v := .agg #[.int .u64 0, .int .i64 0, .string ⟨t.toArray⟩]) (by simp [results, Tryd.results9, go_sem]) rfl ⟨?_, hb _ _⟩
    rfl
set_option maxRecDepth 100000 in
set_option maxHeartbeats 2000000 in
theorem order_any (u v : ValD) (w : World) : Calls Tryd.prog 10 #[valV u, valV v] w fun e w' => e = .returned (.int .i64 (ordV u v)) ∧ Below w.heap.size w w' := by
  have hb : ∀ a b, Below w.heap.size w ((w.alloc a).alloc b) := fun a b => (belowA w a).alloc (belowA w a).size _
  obtain ⟨u0, u1, u2⟩ := u
  obtain ⟨v0, v1, v2⟩ := v
  unfold valV
  dsimp only
  go_enter Tryd.func10, Tryd.ntmps10
  go_wp2
  all_goals go_ret
  all_goals refine ⟨?_, hb _ _⟩
  all_goals refine congrArg (fun z => Ending.returned (Value.int .i64 z)) ?_
  all_goals clear hb
  all_goals unfold ordV
  all_goals (split <;> rename_i e <;> simp only [ValD.mk.injEq] at e <;> first
    | rfl
    | (exfalso; simp_all; done)
    | (exfalso; simp_all; omega)
    | (split <;> rename_i e2 <;> first
      | rfl
      | (exfalso; simp_all; done)
      | (exfalso; simp_all; omega)
      | (exfalso; omega)))

end Go.Proofs.YtcgjppacnhmjlaaDoor
