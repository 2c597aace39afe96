/- put, get, gone, shaped: the program's answer is the document's. -/
import Derived.Test.YtcgjppacnhmjlaaGreatTwinA
set_option linter.unusedVariables false
set_option linter.unusedSimpArgs false
namespace Go.Proofs.YtcgjppacnhmjlaaGreat
open Go.RowKit
attribute [local go_sem ↓] Go.wp_at_zero Go.wp_at_succ

def tw (x r : Nat) : Value := .agg #[.pointer (some ⟨x, 0, none⟩), .pointer (some ⟨r, 0, none⟩)]
def twB (x r : Nat) : Obj := .cells #[.pointer (some ⟨x, 0, none⟩), .pointer (some ⟨r, 0, none⟩)] 42
theorem num_any (n : Int) (w : World) : Calls Tryz.prog 33 #[.int .i64 n] w fun e w' => e = .returned (.int .i64 n) ∧ w' = w := by
  go_enter Tryz.func33, Tryz.ntmps33
  go_wp2
  go_ret
  exact ⟨rfl, rfl⟩
theorem new_new (w : World) (o p : Obj) : ((w.alloc o).alloc p).heap[w.heap.size + 1]? = some p := by have := heap_alloc_new (w.alloc o) p; simpa using this
theorem twin_cell {w w1 : World} {x r : Nat} (hx : x < w.heap.size) (hb : But x (w.alloc (twB x r)) w1) : w1.cell? ⟨w.heap.size, 1, none⟩ = some (.pointer (some ⟨r, 0, none⟩)) := by
  have : w1.heap[w.heap.size]? = some (twB x r) := (hb.block _ (by simp) (by omega)).trans (heap_alloc_new w _)
  simp [World.cell?, this, twB]
/-- The document's index behind a change of the program's. -/
theorem Twin.ref_but {ρ : Nat → Nat} {i : Nat} {w w1 : World} {x r : Nat} {l : List KV} {av : Value} (hx : ρ x = 3 * i + 1) (hr : ρ r = 3 * i + 2) (hg : ∀ g, av.ownBlock = some g → ρ g = 3 * i + 3) (hR : RefAt w r av l) (hbut : But x w w1) : RefAt w1 r av l :=
  ⟨(hbut.block r (idx_lt hR.blk) (fun e => by rw [e] at hr; omega)).trans hR.blk, ownsRow_on hR.row fun g e => hbut.block g (hR.row.lt g e).2 (fun e2 => by have := hg g e; rw [e2] at this; omega), hR.out, hR.srt, hR.short, hR.few⟩
theorem putV_shape (key : ByteArray) (l : List KV) : ∃ a b c, putV key l = .tuple #[.int .i64 a, .bool b, .int .i64 c] := by
  unfold putV
  split
  · exact ⟨_, _, _, rfl⟩
  · split
    · exact ⟨_, _, _, rfl⟩
    · split <;> exact ⟨_, _, _, rfl⟩

set_option maxRecDepth 100000 in
set_option maxHeartbeats 400000 in
theorem tput_any {ρ : Nat → Nat} {i : Nat} {w : World} {x r : Nat} {l : List KV} {key : ByteArray} {v : Int} (h : Twin ρ i w x r l) (hf : ∀ k, w.heap.size ≤ k → ρ k = 0) (hk : key.size ≤ 9223372036854775807) :
    Calls Tryz.prog 16 #[tw x r, .string key, .int .i64 v] w fun e w' => e = .returned (.bool true) ∧ ∃ ρ', Moved (Part i) ρ w ρ' w' ∧ Twin ρ' i w' x r (putL key v l) := by
  have hb0 : ∀ ob, Below w.heap.size w (w.alloc ob) := fun ob => below_alloc w ob
  have H0 : ∀ ob, Twin ρ i (w.alloc ob) x r l := fun ob => h.on (hb0 ob) hf
  have hf0 : ∀ ob k, (w.alloc ob).heap.size ≤ k → ρ k = 0 := fun ob k hk => hf k (Nat.le_trans (hb0 ob).size hk)
  obtain ⟨a, b, c, hv⟩ := putV_shape key l
  have HP : Hid (∀ ob, Calls Tryz.prog 31 #[.pointer (some ⟨x, 0, none⟩), .string key, .int .i64 v] (w.alloc ob) fun e w' => e = .returned (.tuple #[.int .i64 a, .bool b, .int .i64 c]) ∧ (IndexAt (fun k => ρ k = 0) w' x (putL key v l) ∧ But x (w.alloc ob) w')) := fun ob => (iput_any (fun k hk => hf0 ob k hk) (H0 ob).ix hk).mono fun e w' he => ⟨by rw [he.1, hv], he.2⟩
  have HQ : Hid (∀ ob w1, IndexAt (fun k => ρ k = 0) w1 x (putL key v l) → But x (w.alloc ob) w1 → Calls Tryz.prog 32 #[.pointer (some ⟨r, 0, none⟩), .string key, .int .i64 v] w1 fun e w' => e = .returned (.tuple #[.int .i64 a, .bool b, .int .i64 c]) ∧ ∃ ρ', Moved (Part i) ρ w ρ' w' ∧ Twin ρ' i w' x r (putL key v l)) := fun ob w1 hix hbut => by
    obtain ⟨av, hR, hg⟩ := (H0 ob).ref
    have hR1 := Twin.ref_but h.px h.pr hg hR hbut
    refine (rput_any hR1 hk).mono ?_
    rintro e w2 ⟨h1, av', h2, h3, h4⟩
    obtain ⟨ρ', m, t⟩ := Twin.both (hf0 ob) h.px h.pr hg (H0 ob).ix.lt (idx_lt hR.blk) (H0 ob).ix.isC hR1.isC (ownsRow_isC hR1.row) hbut hix h2 h3 h4
    exact ⟨by rw [h1, hv], ρ', (Moved.of_below hf (hb0 ob)).trans m, t⟩
  have HRC : Hid (∀ w1, But x (w.alloc (twB x r)) w1 → w1.cell? ⟨w.heap.size, 1, none⟩ = some (.pointer (some ⟨r, 0, none⟩))) := fun w1 hb => twin_cell h.ix.lt hb
  clear H0 hf0 hb0 hv h hf
  unfold tw
  go_enter Tryz.func16, Tryz.ntmps16
  go_wp2_with (first
    | (go_at_call 31; refine (HP.out _).mono ?_; rintro e w1 ⟨rfl, hix, hbut⟩; have hc1 := HRC.out w1 hbut)
    | (go_at_call 32; refine (HQ.out _ _ hix hbut).mono ?_; rintro e w2 ⟨rfl, ρ', hm, ht⟩)
    | (go_at_call 33; refine (num_any _ _).mono ?_; rintro e w' ⟨rfl, rfl⟩))
  go_ret
  exact ⟨rfl, ρ', hm, ht⟩

set_option maxRecDepth 100000 in
set_option maxHeartbeats 400000 in
theorem tgone_any {ρ : Nat → Nat} {i : Nat} {w : World} {x r : Nat} {l : List KV} {key : ByteArray} (h : Twin ρ i w x r l) (hf : ∀ k, w.heap.size ≤ k → ρ k = 0) (hk : key.size ≤ 9223372036854775807) :
    Calls Tryz.prog 37 #[tw x r, .string key] w fun e w' => e = .returned (.bool true) ∧ ∃ ρ' l', Moved (Part i) ρ w ρ' w' ∧ Twin ρ' i w' x r l' := by
  have hb0 : ∀ ob, Below w.heap.size w (w.alloc ob) := fun ob => below_alloc w ob
  have H0 : ∀ ob, Twin ρ i (w.alloc ob) x r l := fun ob => h.on (hb0 ob) hf
  have hf0 : ∀ ob k, (w.alloc ob).heap.size ≤ k → ρ k = 0 := fun ob k hk => hf k (Nat.le_trans (hb0 ob).size hk)
  have HP : Hid (∀ ob, Calls Tryz.prog 55 #[.pointer (some ⟨x, 0, none⟩), .string key] (w.alloc ob) fun e w' => e = .returned (.tuple #[.int .i64 (valOr (lk (kof key) l)), .bool (lk (kof key) l).isSome]) ∧ (IndexAt (fun k => ρ k = 0) w' x (del (kof key) l) ∧ But x (w.alloc ob) w')) := fun ob => delete_any (fun k hk => hf0 ob k hk) (H0 ob).ix hk
  have HQ : Hid (∀ ob w1, IndexAt (fun k => ρ k = 0) w1 x (del (kof key) l) → But x (w.alloc ob) w1 → Calls Tryz.prog 56 #[.pointer (some ⟨r, 0, none⟩), .string key] w1 fun e w' => e = .returned (.tuple #[.int .i64 (valOr (lk (kof key) l)), .bool (lk (kof key) l).isSome]) ∧ ∃ ρ' l', Moved (Part i) ρ w ρ' w' ∧ Twin ρ' i w' x r l') := fun ob w1 hix hbut => by
    obtain ⟨av, hR, hg⟩ := (H0 ob).ref
    have hR1 := Twin.ref_but h.px h.pr hg hR hbut
    refine (rdel_any hR1 hk).mono ?_
    rintro e w2 ⟨h1, av', h2, h3, h4⟩
    obtain ⟨ρ', m, t⟩ := Twin.both (hf0 ob) h.px h.pr hg (H0 ob).ix.lt (idx_lt hR.blk) (H0 ob).ix.isC hR1.isC (ownsRow_isC hR1.row) hbut hix h2 h3 h4
    exact ⟨h1, ρ', _, (Moved.of_below hf (hb0 ob)).trans m, t⟩
  have HRC : Hid (∀ w1, But x (w.alloc (twB x r)) w1 → w1.cell? ⟨w.heap.size, 1, none⟩ = some (.pointer (some ⟨r, 0, none⟩))) := fun w1 hb => twin_cell h.ix.lt hb
  clear H0 hf0 hb0 h hf
  generalize valOr (lk (kof key) l) = a at *
  generalize (lk (kof key) l).isSome = b at *
  unfold tw
  go_enter Tryz.func37, Tryz.ntmps37
  go_wp2_with (first
    | (go_at_call 55; refine (HP.out _).mono ?_; rintro e w1 ⟨rfl, hix, hbut⟩; have hc1 := HRC.out w1 hbut)
    | (go_at_call 56; refine (HQ.out _ _ hix hbut).mono ?_; rintro e w2 ⟨rfl, ρ', l', hm, ht⟩))
  go_ret
  exact ⟨rfl, ρ', l', hm, ht⟩

set_option maxRecDepth 100000 in
set_option maxHeartbeats 400000 in
theorem tget_any {ρ : Nat → Nat} {i : Nat} {w : World} {x r : Nat} {l : List KV} {key : ByteArray} (h : Twin ρ i w x r l) (hf : ∀ k, w.heap.size ≤ k → ρ k = 0) (hk : key.size ≤ 9223372036854775807) :
    Calls Tryz.prog 13 #[tw x r, .string key] w fun e w' => e = .returned (.bool true) ∧ Below w.heap.size w w' := by
  have hb0 : ∀ ob, Below w.heap.size w (w.alloc ob) := fun ob => below_alloc w ob
  have H0 : ∀ ob, Twin ρ i (w.alloc ob) x r l := fun ob => h.on (hb0 ob) hf
  have HP : Hid (∀ ob, Calls Tryz.prog 17 #[.pointer (some ⟨x, 0, none⟩), .string key] (w.alloc ob) fun e w' => e = .returned (.tuple #[.int .i64 (valOr (lk (kof key) l)), .bool (lk (kof key) l).isSome]) ∧ Below (w.alloc ob).heap.size (w.alloc ob) w') := fun ob => indexGet_any (H0 ob).ix hk
  have HQ : Hid (∀ ob w1, Below (w.alloc ob).heap.size (w.alloc ob) w1 → Calls Tryz.prog 25 #[.pointer (some ⟨r, 0, none⟩), .string key] w1 fun e w' => e = .returned (.tuple #[.int .i64 (valOr (lk (kof key) l)), .bool (lk (kof key) l).isSome]) ∧ Below w.heap.size w w') := fun ob w1 hb1 => by
    obtain ⟨av, hR, hg⟩ := (H0 ob).ref
    refine (rget_any (hR.on hb1) key hk).mono ?_
    rintro e w2 ⟨h1, n, rfl⟩
    have hb2 := (hb0 ob).trans (hb1.mono (hb0 ob).size)
    exact ⟨h1, ⟨hb2.os, hb2.tape, hb2.output, hb2.size, hb2.block⟩⟩
  have HRC : Hid (∀ w1, Below (w.alloc (twB x r)).heap.size (w.alloc (twB x r)) w1 → w1.cell? ⟨w.heap.size, 1, none⟩ = some (.pointer (some ⟨r, 0, none⟩))) := fun w1 hb => twin_cell h.ix.lt (But.of_below hb)
  clear H0 hb0 h hf
  generalize valOr (lk (kof key) l) = a at *
  generalize (lk (kof key) l).isSome = b at *
  unfold tw
  go_enter Tryz.func13, Tryz.ntmps13
  go_wp2_with (first
    | (go_at_call 17; refine (HP.out _).mono ?_; rintro e w1 ⟨rfl, hb1⟩; have hc1 := HRC.out w1 hb1)
    | (go_at_call 25; refine (HQ.out _ _ hb1).mono ?_; rintro e w2 ⟨rfl, hb2⟩))
  go_ret
  exact ⟨rfl, hb2⟩

end Go.Proofs.YtcgjppacnhmjlaaGreat
