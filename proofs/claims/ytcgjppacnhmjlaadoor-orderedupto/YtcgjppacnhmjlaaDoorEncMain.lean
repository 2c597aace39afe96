/- Encodes: every Encode. -/
import Derived.Test.YtcgjppacnhmjlaaDoorTupW
set_option linter.unusedVariables false
set_option linter.unusedSimpArgs false
namespace Go.Proofs.YtcgjppacnhmjlaaDoor
open Go.RowKit Go.Shelf
attribute [local go_sem ↓] Go.wp_at_zero Go.wp_at_succ

def exK : List Int := [2, 5, 9]
def exV : List ValD := [⟨258, 0, []⟩, ⟨0, -1, []⟩, ⟨0, 0, [97, 0]⟩]
theorem ex_code : encAll exK exV = [1, 2, 127, 97, 0, 255, 0, 0] := by decide +kernel
theorem ex_sch : IsSch exK := by decide +kernel
theorem ex_fit : FitAll exK exV := by
  refine ⟨?_, ?_, ?_, trivial⟩ <;> decide +kernel
def exO1 : Obj := .cells #[.int .i64 2, .int .i64 5, .int .i64 9] 3
def exO2 : Obj := .cells #[.int .u64 258, .int .i64 0, .string ⟨#[]⟩, .int .u64 0, .int .i64 (-1), .string ⟨#[]⟩, .int .u64 0, .int .i64 0, .string ⟨#[97, 0]⟩] 29
theorem ex_ints {w : World} {b : Nat} (h : w.heap[b]? = some exO1) : IntsAt w (.slice (some ⟨b, 0, none⟩) 3 3) exK := by
  refine ⟨_, b, 0, 3, rfl, Nat.le_refl _, fun i k hk => ⟨rfl, ?_⟩⟩
  match i, hk with
  | 0, hk => cases hk; simp [World.cell?, h, exO1]
  | 1, hk => cases hk; simp [World.cell?, h, exO1]
  | 2, hk => cases hk; simp [World.cell?, h, exO1]
  | i + 3, hk => simp [exK] at hk
theorem ex_vals {w : World} {b : Nat} (h : w.heap[b]? = some exO2) : ValsAt w (.slice (some ⟨b, 0, none⟩) 3 3) exV := by
  refine ⟨_, b, 0, 3, rfl, Nat.le_refl _, fun i k hk => ⟨rfl, ?_⟩⟩
  match i, hk with
  | 0, hk => cases hk; simp [World.cell?, h, exO2]
  | 1, hk => cases hk; simp [World.cell?, h, exO2]
  | 2, hk => cases hk; simp [World.cell?, h, exO2]
  | i + 3, hk => simp [exV] at hk
theorem new_newD (w : World) (o p : Obj) : ((w.alloc o).alloc p).heap[w.heap.size + 1]? = some p := by have := heap_alloc_new (w.alloc o) p; simpa using this

set_option maxRecDepth 100000 in
set_option maxHeartbeats 1000000 in
theorem encodes_any {w : World} {x y : Value} {ks : List Int} {vs : List ValD} {m : Int} (hx : IntsAt w x ks) (hy : ValsAt w y vs) (hl : ks.length ≤ 1048576) (hlv : vs.length ≤ 1048576) (hvs : ∀ u ∈ vs, ValOk u) (hm : w.cell? ⟨0, 0, none⟩ = some (.int .i64 m)) (hsz : ∀ u ∈ vs, u.s.length < 4294967281) (htot : (encAll ks vs).length + 8 ≤ 140737488355328) :
    Calls Tryd.prog 3 #[x, y] w fun e w' => e = .returned (.bool true) ∧ Below w.heap.size w w' := by
  have hb0 : Below w.heap.size w ((w.alloc exO1).alloc exO2) := (belowA w _).alloc (belowA w _).size _
  have HEx : Hid (Calls Tryd.prog 6 #[.slice (some ⟨w.heap.size, 0, none⟩) 3 3, .slice (some ⟨w.heap.size + 1, 0, none⟩) 3 3] ((w.alloc exO1).alloc exO2) fun e w' => e = .returned (.tuple #[.string ⟨#[1, 2, 127, 97, 0, 255, 0, 0]⟩, .int .i64 0]) ∧ Below w.heap.size w w') := by
    refine (encode_any (ex_ints (old_new w exO1 exO2)) (ex_vals (new_newD w exO1 exO2)) (by decide) (by decide) (fun u hu => by simp [exV] at hu; rcases hu with rfl | rfl | rfl <;> (unfold ValOk; decide)) (cell_later hb0 hm) (fun u hu => by simp [exV] at hu; rcases hu with rfl | rfl | rfl <;> decide) (by rw [ex_code]; decide)).mono ?_
    rintro e w' ⟨h1, h2⟩
    refine ⟨?_, hb0.trans (h2.mono hb0.size)⟩
    rcases h1 with ⟨h1, _⟩ | ⟨_, h1, _⟩ | ⟨_, _, h1⟩
    · exact absurd ex_sch h1
    · exact absurd ex_fit h1
    · rw [h1, ex_code]
  have HE : Hid (∀ w1, Below w.heap.size w w1 → Calls Tryd.prog 7 #[x, y] w1 fun e w' => e = .returned (.bool true) ∧ Below w.heap.size w w') := fun w1 hb =>
    (encoded_any (hx.on hb) (hy.on hb) hl hlv hvs (cell_later hb hm) hsz htot).mono fun e w' he => ⟨he.1, hb.trans (he.2.mono hb.size)⟩
  clear hx hy hvs hm hsz hb0
  have e1 : ∀ w1 : World, w1.alloc (.cells #[.int .i64 2, .int .i64 5, .int .i64 9] 3) = w1.alloc exO1 := fun _ => rfl
  have e2 : ∀ w1 : World, w1.alloc (.cells #[.int .u64 258, .int .i64 0, .string ⟨#[]⟩, .int .u64 0, .int .i64 (-1), .string ⟨#[]⟩, .int .u64 0, .int .i64 0, .string ⟨#[97, 0]⟩] 29) = w1.alloc exO2 := fun _ => rfl
  go_enter Tryd.func3, Tryd.ntmps3
  go_wp2_with (first
    | (go_at_call 6; refine HEx.out.mono ?_; rintro e w1 ⟨rfl, hb1⟩)
    | (go_at_call 7; refine (HE.out _ hb1).mono ?_; rintro e w2 ⟨rfl, hb2⟩))
  go_ret
  exact ⟨rfl, hb2⟩

end Go.Proofs.YtcgjppacnhmjlaaDoor
