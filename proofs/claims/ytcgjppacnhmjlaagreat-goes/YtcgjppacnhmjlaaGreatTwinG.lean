/- begun: the document's four keys. -/
import Derived.Test.YtcgjppacnhmjlaaGreatTwinF
import Derived.Deep.RegionHeld3
set_option linter.unusedVariables false
set_option linter.unusedSimpArgs false
namespace Go.Proofs.YtcgjppacnhmjlaaGreat
open Go.RowKit
attribute [local go_sem ↓] Go.wp_at_zero Go.wp_at_succ

def ixB : Obj := .cells #[.pointer none] 64
def rfB : Obj := .cells #[.slice none 0 0] 36
theorem fresh_twin {ρ : Nat → Nat} {w : World} {W : Nat} {most : Int} {av : Value} {ts : TS} (h : Wd ρ w W most av ts) : ∃ ρ1, Moved NZ ρ w ρ1 ((w.alloc ixB).alloc rfB) ∧ Wd ρ1 ((w.alloc ixB).alloc rfB) W most av ts ∧ Twin ρ1 ts.length ((w.alloc ixB).alloc rfB) w.heap.size (w.heap.size + 1) [] := by
  have hb : Below w.heap.size w ((w.alloc ixB).alloc rfB) := (below_alloc w ixB).alloc (below_alloc w ixB).size _
  have hs : ((w.alloc ixB).alloc rfB).heap.size = w.heap.size + 2 := by simp
  let ρ1 : Nat → Nat := fun k => if k = w.heap.size then 3 * ts.length + 1 else if k = w.heap.size + 1 then 3 * ts.length + 2 else ρ k
  have e1 : ρ1 w.heap.size = 3 * ts.length + 1 := if_pos rfl
  have e2 : ρ1 (w.heap.size + 1) = 3 * ts.length + 2 := by show (if w.heap.size + 1 = w.heap.size then _ else if w.heap.size + 1 = w.heap.size + 1 then _ else _) = _; rw [if_neg (by omega), if_pos rfl]
  have e3 : ∀ k, k < w.heap.size → ρ1 k = ρ k := fun k hk => by show (if k = w.heap.size then _ else if k = w.heap.size + 1 then _ else _) = _; rw [if_neg (by omega), if_neg (by omega)]
  have e4 : ∀ k, w.heap.size + 2 ≤ k → ρ1 k = 0 := fun k hk => by show (if k = w.heap.size then _ else if k = w.heap.size + 1 then _ else _) = _; rw [if_neg (by omega), if_neg (by omega)]; exact h.fresh k (by omega)
  have hm : Moved (fun _ => False) ρ w ρ1 ((w.alloc ixB).alloc rfB) := ⟨hb.os, hb.tape, hb.output, hb.size, e3, fun k hk => e4 k (by omega), fun k hk _ => hb.block k hk, fun k o hk _ => (hb.block k (idx_lt hk)).trans hk⟩
  refine ⟨ρ1, hm.mono (fun _ h => h.elim), ⟨(hb.block _ (idx_lt h.blk)).trans h.blk, (e3 _ (idx_lt h.blk)).trans h.pW, ownsRow_on h.row fun g e => hb.block g (h.row.lt g e).2, fun g e => (e3 g (h.row.lt g e).2).trans (h.pg g e), fun i t hi => (h.tw i t hi).moved hm (fun h => h) (fun _ _ h => h), fun k hk => e4 k (by omega), h.few⟩, ?_⟩
  refine ⟨⟨⟨0, none, ?_, .inl ⟨rfl, rfl⟩⟩, fun e => by rw [e1] at e; omega, by simp⟩, e1, e2, .slice none 0 0, ⟨?_, World.ownsRow_nil _ _ _ _, by simp [Value.ownBlock], List.Pairwise.nil, fun e he => (by cases he), by simp⟩, fun g e => by simp [Value.ownBlock] at e⟩
  · exact old_new w ixB rfB
  · exact new_new w ixB rfB

def keys4 : Nat → ByteArray
  | 0 => ⟨#[97, 98, 100]⟩
  | 1 => ⟨#[]⟩
  | 2 => ⟨#[97, 98, 99]⟩
  | _ => ⟨#[97]⟩
def put4 : Nat → List KV
  | 0 => []
  | i + 1 => putL (keys4 i) i (put4 i)
theorem put4eq : put4 4 = [([], 1), ([97], 3), ([97, 98, 99], 2), ([97, 98, 100], 0)] := by decide +kernel
theorem lk4 : lk [97, 98, 99] (put4 4) = some 2 := by rw [put4eq]; decide +kernel
def c4 : Nat → Nat := fun j => if j = 0 then 2 else if j = 1 then 3 else 0
theorem srt_lone (e : KV) : Srt [e] := by simp [Srt]
theorem shape_leaf (k : List UInt8) (v : Int) (n : Nat) : ShapeOf (n + 1) ([(k, v)] : List KV) (one 0) 1 :=
  ⟨k, some v, [], [], ⟨⟨rfl, List.Pairwise.nil, fun i g h => by simp at h, fun i x g h => by simp at h, fun i g h => by simp at h⟩, by simp [ownL], fun h => by cases h⟩, .inl ⟨rfl, rfl, rfl⟩⟩
theorem shape_one {k : List UInt8} {v : Int} {x : UInt8} {g : List KV} {c : Nat → Nat} {h n : Nat} (hg : ShapeOf n g c h) (hne : g ≠ []) (hp : ∀ e ∈ g, ∃ r, e.1 = k ++ x :: r) (hs : Srt g) : ShapeOf (n + 1) (((k, v) :: g) : List KV) (fun j => c j + one 1 j) (h + 1) := by
  refine ⟨k, some v, [x], [g], ⟨⟨rfl, by simp, fun i m hi => ?_, fun i y m hy hi => ?_, fun i m hi => ?_⟩, by simp [ownL], fun h => by cases h⟩, .inr ⟨by simp, [c], [h], rfl, rfl, fun i m c' h' hi hc hh => ?_, ?_, ?_⟩⟩
  · cases i with
    | zero => simp at hi; subst hi; exact hne
    | succ i => simp at hi
  · cases i with
    | zero => simp at hi hy; subst hi; subst hy; exact hp
    | succ i => simp at hi
  · cases i with
    | zero => simp at hi; subst hi; exact hs
    | succ i => simp at hi
  · cases i with
    | zero => simp at hi hc hh; subst hi; subst hc; subst hh; exact hg
    | succ i => simp at hi
  · funext j; simp [sumAt, kindIx]
  · simp [maxOf]
theorem shape_two (k : List UInt8) (x y : UInt8) (hxy : x < y) (v u : Int) (n : Nat) : ShapeOf (n + 2) ([(k ++ [x], v), (k ++ [y], u)] : List KV) (fun j => one 0 j + one 0 j + one 1 j) 2 := by
  refine ⟨k, none, [x, y], [[(k ++ [x], v)], [(k ++ [y], u)]], ⟨⟨rfl, by simpa using hxy, fun i m hi => ?_, fun i z m hz hi => ?_, fun i m hi => ?_⟩, by simp [ownL], fun _ => by simp⟩, .inr ⟨by simp, [one 0, one 0], [1, 1], rfl, rfl, fun i m c' h' hi hc hh => ?_, ?_, ?_⟩⟩
  · match i with
    | 0 => simp at hi; subst hi; simp
    | 1 => simp at hi; subst hi; simp
    | i + 2 => simp at hi
  · match i with
    | 0 => simp at hi hz; subst hi; subst hz; simp
    | 1 => simp at hi hz; subst hi; subst hz; simp
    | i + 2 => simp at hi
  · match i with
    | 0 => simp at hi; subst hi; exact srt_lone _
    | 1 => simp at hi; subst hi; exact srt_lone _
    | i + 2 => simp at hi
  · match i with
    | 0 => simp at hi hc hh; subst hi; subst hc; subst hh; exact shape_leaf _ _ _
    | 1 => simp at hi hc hh; subst hi; subst hc; subst hh; exact shape_leaf _ _ _
    | i + 2 => simp at hi
  · funext j; simp [sumAt, kindIx]
  · simp [maxOf]
theorem shape4 : ShapeL (put4 4) c4 4 := by
  rw [put4eq]
  refine .inr ⟨4, ?_⟩
  have h2 := shape_two [97, 98] 99 100 (by decide) 2 0 0
  have h3 := shape_one (k := [97]) (v := 3) (x := 98) h2 (by simp) (fun e he => by simp at he; rcases he with rfl | rfl <;> simp) (by simp [Srt, klt, Op.bytesLess])
  have h4 := shape_one (k := []) (v := 1) (x := 97) h3 (by simp) (fun e he => by simp at he; rcases he with rfl | rfl | rfl <;> simp) (by simp [Srt, klt, Op.bytesLess])
  have : c4 = fun j => one 0 j + one 0 j + one 1 j + one 1 j + one 1 j := by
    funext j
    unfold c4 one
    by_cases h0 : j = 0
    · simp [h0]
    · by_cases h1 : j = 1
      · simp [h1]
      · simp [h0, h1]
  rw [this]
  exact h4

end Go.Proofs.YtcgjppacnhmjlaaGreat
