/- What holds of two indexes beside one another, and of lists of texts that are put and taken away. -/
import Derived.Test.YtcgjppacnhmjlaaGreatIndexB
set_option linter.unusedVariables false
set_option linter.unusedSimpArgs false
namespace Go.Proofs.YtcgjppacnhmjlaaGreat
open Go.RowKit

def kof (s : ByteArray) : List UInt8 := s.data.toList
theorem kof_inj {a b : ByteArray} (h : kof a = kof b) : a = b := by
  have := Lib.mk_data a; have h2 := Lib.mk_data b
  unfold kof at h; rw [← this, ← h2, h]

theorem RepN.keep' {S : Nat → Prop} {w w' : World} {x n b : Nat} {l : List KV} (h : RepN S n w b l) (hb : But x w w') (hS : ¬ S x) : RepN S n w' b l := by
  have h1 : RepN (fun k => S k ∧ k < w.heap.size) n w b l := h.weaken (fun k h1 h2 => ⟨h1, h2⟩)
  exact h1.keep (fun k hk => hb.block k hk.2 (fun e => hS (e ▸ hk.1))) (fun k hk _ => hk.1) (Nat.le_refl _)
/-- An index that is not the one that was changed. -/
theorem IndexAt.but {S : Nat → Prop} {w w' : World} {x y : Nat} {l : List KV} (h : IndexAt S w y l) (hb : But x w w') (hyx : y ≠ x) (hS : ¬ S x) : IndexAt S w' y l := by
  obtain ⟨n, tp, hx, hT⟩ := h.tree
  refine ⟨⟨n, tp, (hb.block y (idx_lt hx) hyx).trans hx, ?_⟩, h.out, h.few⟩
  rcases hT with hT | ⟨t, h1, h2⟩
  · exact .inl hT
  · exact .inr ⟨t, h1, h2.keep' hb hS⟩
theorem IndexAt.on {S : Nat → Prop} {w w' : World} {y : Nat} {l : List KV} (h : IndexAt S w y l) (hb : Below w.heap.size w w') : IndexAt S w' y l := by
  obtain ⟨n, tp, hx, hT⟩ := h.tree
  exact ⟨⟨n, tp, (hb.block y (idx_lt hx)).trans hx, hT.on hb⟩, h.out, h.few⟩
theorem Open.but {S : Nat → Prop} {w w' : World} {x : Nat} (h : Open S w) (hb : But x w w') : Open S w' := fun k hk => h k (Nat.le_trans hb.size hk)
theorem IndexAt.lt {S : Nat → Prop} {w : World} {x : Nat} {l : List KV} (h : IndexAt S w x l) : x < w.heap.size := by
  obtain ⟨n, tp, hx, hT⟩ := h.tree; exact idx_lt hx
theorem IndexAt.srt {S : Nat → Prop} {w : World} {x : Nat} {l : List KV} (h : IndexAt S w x l) : Srt l := by
  obtain ⟨n, tp, hx, hT⟩ := h.tree; exact srt_of hT

/-- Put, where there is room. -/
theorem put_room {S : Nat → Prop} {w : World} {x : Nat} {l : List KV} {key : ByteArray} {v : Int} (hS : Open S w) (h : IndexAt S w x l) (hk : key.size ≤ 64) (hf : l.length < 3000) :
    Calls Tryz.prog 31 #[.pointer (some ⟨x, 0, none⟩), .string key, .int .i64 v] w fun e w' => (∃ a b, e = .returned (.tuple #[.int .i64 a, .bool b, .int .i64 0])) ∧ IndexAt S w' x (ins (kof key) v l) ∧ But x w w' := by
  cases hu : lk key.data.toList l with
  | none => exact (put_new hS h hk hu hf).mono fun e w' he => ⟨⟨_, _, he.1⟩, he.2⟩
  | some u => exact (put_old hS h hk hu).mono fun e w' he => ⟨⟨_, _, he.1⟩, he.2⟩
/-- Delete, whether or not the key is there. -/
theorem delete_any {S : Nat → Prop} {w : World} {x : Nat} {l : List KV} {key : ByteArray} (hS : Open S w) (h : IndexAt S w x l) (hk : key.size ≤ 9223372036854775807) :
    Calls Tryz.prog 55 #[.pointer (some ⟨x, 0, none⟩), .string key] w fun e w' => e = .returned (.tuple #[.int .i64 (valOr (lk (kof key) l)), .bool (lk (kof key) l).isSome]) ∧ IndexAt S w' x (del (kof key) l) ∧ But x w w' := by
  unfold kof
  cases hu : lk key.data.toList l with
  | none => exact (delete_none h hk hu).mono fun e w' he => ⟨he.1, by rw [del_none hu]; exact h.on he.2, But.of_below he.2⟩
  | some u => exact (delete_some hS h hk hu).mono fun e w' he => he

/-- All of some pairs put, one behind the other. -/
def puts (ps : List (ByteArray × Int)) (l : List KV) : List KV := ps.foldl (fun l p => ins (kof p.1) p.2 l) l
theorem puts_snoc (ps : List (ByteArray × Int)) (p : ByteArray × Int) (l : List KV) : puts (ps ++ [p]) l = ins (kof p.1) p.2 (puts ps l) := by simp [puts]
theorem srt_puts {ps : List (ByteArray × Int)} {l : List KV} (h : Srt l) : Srt (puts ps l) := by
  induction ps generalizing l with
  | nil => exact h
  | cons p ps ih => exact ih (srt_ins h)
theorem len_puts {ps : List (ByteArray × Int)} {l : List KV} (h : Srt l) : (puts ps l).length ≤ l.length + ps.length := by
  induction ps generalizing l with
  | nil => simp [puts]
  | cons p ps ih =>
    have h1 := ih (l := ins (kof p.1) p.2 l) (srt_ins h)
    have h2 := len_ins_le (kof p.1) p.2 l h
    show (puts ps (ins (kof p.1) p.2 l)).length ≤ _
    simp; omega
/-- Where the value hangs on the key alone. -/
theorem mem_puts {f : ByteArray → Int} {ks : List ByteArray} {l : List KV} {e : KV} : e ∈ puts (ks.map fun k => (k, f k)) l ↔ (∃ k ∈ ks, e = (kof k, f k)) ∨ (e ∈ l ∧ ∀ k ∈ ks, kof k ≠ e.1) := by
  induction ks generalizing l with
  | nil => simp [puts]
  | cons k ks ih =>
    show e ∈ puts (ks.map fun k => (k, f k)) (ins (kof k) (f k) l) ↔ _
    rw [ih, mem_ins]
    constructor
    · rintro (⟨k', h1, h2⟩ | ⟨h1 | ⟨h1, h2⟩, h3⟩)
      · exact .inl ⟨k', List.mem_cons_of_mem _ h1, h2⟩
      · exact .inl ⟨k, List.mem_cons_self, h1⟩
      · exact .inr ⟨h1, fun k' hk' => by
          rcases List.mem_cons.mp hk' with rfl | hk'
          · exact fun h => h2 h.symm
          · exact h3 k' hk'⟩
    · rintro (⟨k', h1, h2⟩ | ⟨h1, h2⟩)
      · rcases List.mem_cons.mp h1 with rfl | h1
        · by_cases h3 : ∃ k'' ∈ ks, kof k'' = kof k'
          · obtain ⟨k'', h4, h5⟩ := h3
            obtain rfl := kof_inj h5
            exact .inl ⟨k'', h4, h2⟩
          · exact .inr ⟨.inl h2, fun k'' h4 h5 => h3 ⟨k'', h4, by rw [h5, h2]⟩⟩
        · exact .inl ⟨k', h1, h2⟩
      · exact .inr ⟨.inr ⟨h1, fun h => h2 k List.mem_cons_self h.symm⟩, fun k' hk' => h2 k' (List.mem_cons_of_mem _ hk')⟩
/-- Is the text among those? -/
def mineB (keep : List ByteArray) (k : ByteArray) : Bool := keep.any fun a => kof a == kof k
theorem mineB_iff {keep : List ByteArray} {k : ByteArray} : mineB keep k = true ↔ k ∈ keep := by
  unfold mineB
  rw [List.any_eq_true]
  constructor
  · rintro ⟨a, h1, h2⟩
    obtain rfl := kof_inj (by simpa using h2)
    exact h1
  · intro h
    exact ⟨k, h, by simp⟩
/-- Those of some keys that are not among others taken away. -/
def delsBut (keep : List ByteArray) (ks : List ByteArray) (l : List KV) : List KV := ks.foldl (fun l k => if mineB keep k = true then l else del (kof k) l) l
theorem delsBut_snoc (keep ks : List ByteArray) (k : ByteArray) (l : List KV) : delsBut keep (ks ++ [k]) l = if mineB keep k = true then delsBut keep ks l else del (kof k) (delsBut keep ks l) := by simp [delsBut]
theorem srt_delsBut {keep ks : List ByteArray} {l : List KV} (h : Srt l) : Srt (delsBut keep ks l) := by
  induction ks generalizing l with
  | nil => exact h
  | cons k ks ih =>
    show Srt (delsBut keep ks (if mineB keep k = true then l else del (kof k) l))
    split
    · exact ih h
    · exact ih (srt_del h)
theorem mem_delsBut {keep ks : List ByteArray} {l : List KV} {e : KV} : e ∈ delsBut keep ks l ↔ e ∈ l ∧ ∀ k ∈ ks, ¬ mineB keep k = true → kof k ≠ e.1 := by
  induction ks generalizing l with
  | nil => simp [delsBut]
  | cons k ks ih =>
    show e ∈ delsBut keep ks (if mineB keep k = true then l else del (kof k) l) ↔ _
    rw [ih]
    by_cases h : mineB keep k = true
    · rw [if_pos h]
      constructor
      · rintro ⟨h1, h2⟩
        exact ⟨h1, fun k' hk' => by
          rcases List.mem_cons.mp hk' with rfl | hk'
          · exact fun h3 => absurd h h3
          · exact h2 k' hk'⟩
      · rintro ⟨h1, h2⟩
        exact ⟨h1, fun k' hk' => h2 k' (List.mem_cons_of_mem _ hk')⟩
    · rw [if_neg h, mem_del]
      constructor
      · rintro ⟨⟨h1, h3⟩, h2⟩
        exact ⟨h1, fun k' hk' => by
          rcases List.mem_cons.mp hk' with rfl | hk'
          · exact fun _ h4 => h3 h4.symm
          · exact h2 k' hk'⟩
      · rintro ⟨h1, h2⟩
        exact ⟨⟨h1, fun h4 => h2 k List.mem_cons_self h h4.symm⟩, fun k' hk' => h2 k' (List.mem_cons_of_mem _ hk')⟩

end Go.Proofs.YtcgjppacnhmjlaaGreat
