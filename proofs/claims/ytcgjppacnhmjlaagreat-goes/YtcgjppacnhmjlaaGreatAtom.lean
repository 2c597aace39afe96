/- The atomic pointer of an index: what Load, CompareAndSwap and Store do where one goroutine runs. -/
import Derived.Test.YtcgjppacnhmjlaaGreatShape
import Derived.Laws.LoneSync
import Derived.Lib.Builder
set_option linter.unusedVariables false
set_option linter.unusedSimpArgs false
namespace Go.Proofs.YtcgjppacnhmjlaaGreat
open Go.RowKit

theorem run_loadPointer {a : Addr} {p : Option Addr} {w : World} (hc : w.cell? a = some (.pointer p)) : (callFunc 40 #[.pointer (some a)]).run Tryz.prog w = .ok (.value (.pointer p)) w := by
  rw [run_callFunc_extern (e := Extern.Atomic.loadT .ptr) Tryz.func40 (by kernel_rfl) (by kernel_rfl) (by kernel_rfl) (by kernel_rfl)]
  change (Sem.run Tryz.prog (do Extern.Atomic.read .ptr (← asAddr (.pointer (some a)))) w).andThen _ = _
  simp [Extern.Atomic.read, asAddr, hc, Result.andThen]
theorem samePointer_self (p : Option Addr) (w : World) : (samePointer p p).run Tryz.prog w = .ok true w := by
  cases p with
  | none => rfl
  | some a => simp [samePointer, sameAddr]
theorem cas_body (x y z : Value) : ∃ m1 m2 : String, Extern.Atomic.casT .ptr #[x, y, z] = (do
    let a' ← asAddr x
    if ← Extern.Atomic.touchesFrozen a' then unsupported (.unsafePointer m1)
    let eq ← match Extern.Atomic.T.ptr, ← Extern.Atomic.read .ptr a', y with
      | _, .int _ x, .int _ y => pure (x == y)
      | .ptr, .pointer x, .pointer y => samePointer x y
      | .int _, .pointer (some _), .int _ 0 | .int _, .int _ 0, .pointer (some _) => pure false
      | .int _, .pointer (some _), _ | .int _, _, .pointer (some _) => unsupported .addressObserved
      | _, _, _ => stuck m2
    if eq then store a' z .atomic
    pure (Value.bool eq)) := ⟨_, _, rfl⟩
theorem run_casPointer {a : Addr} {p q : Option Addr} {w : World} (hc : w.cell? a = some (.pointer p)) (hz : w.frozen? a = false) :
    (callFunc 65 #[.pointer (some a), .pointer p, .pointer q]).run Tryz.prog w = .ok (.value (.bool true)) (w.setCell a (.pointer q)) := by
  rw [run_callFunc_extern (e := Extern.Atomic.casT .ptr) Tryz.func65 (by kernel_rfl) (by kernel_rfl) (by kernel_rfl) (by kernel_rfl)]
  obtain ⟨m1, m2, h⟩ := cas_body (.pointer (some a)) (.pointer p) (.pointer q)
  rw [h]
  simp [Extern.Atomic.touchesFrozen, Extern.Atomic.read, asAddr, viewAt, World.shape?_isSome_of_cell? hc, hc, hz, run_store Tryz.prog w a (.pointer q) .atomic rfl, Result.andThen, samePointer_self]

/-- A pointer to a tree, or nil. -/
def PtrOk (w : World) (p : Option Addr) : Prop := p = none ∨ ∃ t, p = some ⟨t, 0, none⟩ ∧ w.shape? t = some (71, 4)
theorem TreeN.ptr {S : Nat → Prop} {n : Nat} {w : World} {tp : Option Addr} {l : List KV} (h : TreeN S n w tp l) : PtrOk w tp := by
  rcases h with h | ⟨t, h1, h2⟩
  · exact .inl h.1
  · exact .inr ⟨t, h1, h2.shape⟩
theorem lies : liesAt Tryz.prog Tryz.prog.depth 71 (4 / Tryz.prog.cellsOf 71) 0 71 1 = true := by kernel_rfl
theorem conv_back {p : Option Addr} {w : World} (h : PtrOk w p) : (convert 60 56 (.pointer p)).run Tryz.prog w = .ok (.pointer p) w := by
  obtain ⟨i0, hi0, _⟩ := info_parts infoT
  rcases h with rfl | ⟨t, rfl, h⟩
  · simp [convert, run_underlying Tryz.underlying60, run_underlying Tryz.underlying56, Conv.unsafePointer]
  · exact Lib.run_from_unsafe w _ Tryz.underlying60 Tryz.underlying56 hi0 h lies
theorem conv_to {p : Option Addr} {w : World} (h : PtrOk w p) : (convert 56 60 (.pointer p)).run Tryz.prog w = .ok (.pointer p) w := by
  obtain ⟨i0, hi0, _, h4, _⟩ := info_parts infoT
  rcases h with rfl | ⟨t, rfl, h⟩
  · simp [convert, run_underlying Tryz.underlying60, run_underlying Tryz.underlying56, Conv.unsafePointer]
  · exact Lib.run_to_unsafe w _ Tryz.underlying56 Tryz.underlying60 hi0 (by rw [h4]; decide) h (by show 0 < 4; decide)

set_option maxRecDepth 100000 in
set_option maxHeartbeats 400000 in
theorem load_any {xb : Nat} {p : Option Addr} {w : World} (hc : w.cell? ⟨xb, 0, none⟩ = some (.pointer p)) (hp : PtrOk w p) : Calls Tryz.prog 23 #[.pointer (some ⟨xb, 0, none⟩)] w fun e w' => e = .returned (.pointer p) ∧ w' = w := by
  have hl := run_loadPointer hc
  have hcv := conv_back hp
  clear hp
  go_enter Tryz.func23, Tryz.ntmps23
  go_wp2
  go_ret
  exact ⟨rfl, rfl⟩
set_option maxRecDepth 100000 in
set_option maxHeartbeats 400000 in
theorem cas_any {xb : Nat} {p q : Option Addr} {w : World} (hc : w.cell? ⟨xb, 0, none⟩ = some (.pointer p)) (hz : w.frozen? ⟨xb, 0, none⟩ = false) (hp : PtrOk w p) (hq : PtrOk w q) :
    Calls Tryz.prog 49 #[.pointer (some ⟨xb, 0, none⟩), .pointer p, .pointer q] w fun e w' => e = .returned (.bool true) ∧ w' = w.setCell ⟨xb, 0, none⟩ (.pointer q) := by
  have hl := run_casPointer (q := q) hc hz
  have hcv := conv_to hp
  have hcq := conv_to hq
  clear hp hq hc hz
  go_enter Tryz.func49, Tryz.ntmps49
  go_wp2
  go_ret
  exact ⟨rfl, rfl⟩

end Go.Proofs.YtcgjppacnhmjlaaGreat
