/- The indexes of a script side by side: pick, and one index more. -/
import Derived.Test.YtcgjppacnhmjlaaGreatTwinC
import Derived.OwnWalk
set_option linter.unusedVariables false
set_option linter.unusedSimpArgs false
namespace Go.Proofs.YtcgjppacnhmjlaaGreat
open Go.RowKit

abbrev TS := List (Nat × Nat × List KV)
def flatT (ts : TS) : List Value := ts.flatMap fun t => [.pointer (some ⟨t.1, 0, none⟩), .pointer (some ⟨t.2.1, 0, none⟩)]
theorem flatT_get : ∀ (ts : TS) (i : Nat) (t : Nat × Nat × List KV), ts[i]? = some t → (flatT ts)[i * 2]? = some (.pointer (some ⟨t.1, 0, none⟩)) ∧ (flatT ts)[i * 2 + 1]? = some (.pointer (some ⟨t.2.1, 0, none⟩))
  | [], i, t, h => by simp at h
  | a :: ts, 0, t, h => by simp at h; subst h; simp [flatT]
  | a :: ts, i + 1, t, h => by
    have := flatT_get ts i t (by simpa using h)
    have e1 : (i + 1) * 2 = i * 2 + 1 + 1 := by omega
    rw [e1]
    simpa [flatT] using this
theorem flatT_snoc (ts : TS) (t : Nat × Nat × List KV) : flatT (ts ++ [t]) = flatT ts ++ [.pointer (some ⟨t.1, 0, none⟩), .pointer (some ⟨t.2.1, 0, none⟩)] := by simp [flatT]
theorem flatT_set : ∀ (ts : TS) (i : Nat) (t : Nat × Nat × List KV) (l' : List KV), ts[i]? = some t → flatT (ts.set i (t.1, t.2.1, l')) = flatT ts
  | [], i, t, l', h => by simp at h
  | a :: ts, 0, t, l', h => by simp at h; subst h; simp [flatT]
  | a :: ts, i + 1, t, l', h => by
    have := flatT_set ts i t l' (by simpa using h)
    simpa [flatT] using this

/-- The script's world at block W: how many kinds it plays, its row av, its indexes ts. -/
structure Wd (ρ : Nat → Nat) (w : World) (W : Nat) (most : Int) (av : Value) (ts : TS) : Prop where
  blk : w.heap[W]? = some (.cells #[av, .int .i64 most] 28 (0, 0))
  pW : ρ W = 100
  row : w.ownsRow 0 42 2 av ts.length (flatT ts)
  pg : ∀ g, av.ownBlock = some g → ρ g = 101
  tw : ∀ (i : Nat) t, ts[i]? = some t → Twin ρ i w t.1 t.2.1 t.2.2
  fresh : ∀ k, w.heap.size ≤ k → ρ k = 0
  few : ts.length ≤ 8
theorem Wd.on {ρ : Nat → Nat} {w w' : World} {W : Nat} {most : Int} {av : Value} {ts : TS} (h : Wd ρ w W most av ts) (hb : Below w.heap.size w w') : Wd ρ w' W most av ts :=
  ⟨(hb.block _ (idx_lt h.blk)).trans h.blk, h.pW, ownsRow_on h.row fun g e => hb.block g (h.row.lt g e).2, h.pg, fun i t e => (h.tw i t e).on hb h.fresh, fun k hk => h.fresh k (Nat.le_trans hb.size hk), h.few⟩
theorem part_small {i c : Nat} (hi : i < 8) (h : Part i c) : 0 < c ∧ c < 100 := by unfold Part at h; omega
theorem part_apart {i j c : Nat} (h : Part i c) (k : Part j c) : i = j := by unfold Part at h k; omega
theorem Wd.lt {ρ : Nat → Nat} {w : World} {W : Nat} {most : Int} {av : Value} {ts : TS} (h : Wd ρ w W most av ts) {i : Nat} {t} (hi : ts[i]? = some t) : i < ts.length ∧ i < 8 := by
  have := (List.getElem?_eq_some_iff.mp hi).1
  have := h.few
  omega
theorem Wd.set {ρ ρ' : Nat → Nat} {w w' : World} {W : Nat} {most : Int} {av : Value} {ts : TS} (h : Wd ρ w W most av ts) {i : Nat} {t : Nat × Nat × List KV} {l' : List KV} (hi : ts[i]? = some t) (hm : Moved (Part i) ρ w ρ' w') (ht : Twin ρ' i w' t.1 t.2.1 l') : Wd ρ' w' W most av (ts.set i (t.1, t.2.1, l')) := by
  obtain ⟨hlt, h8⟩ := h.lt hi
  have n100 : ¬ Part i 100 := fun e => by have := part_small h8 e; omega
  have n101 : ¬ Part i 101 := fun e => by have := part_small h8 e; omega
  refine ⟨(hm.block W (idx_lt h.blk) (by rw [h.pW]; exact n100)).trans h.blk, (hm.agree W (idx_lt h.blk)).trans h.pW, ?_, fun g e => (hm.agree g (h.row.lt g e).2).trans (h.pg g e), fun j u hj => ?_, hm.fresh, by rw [List.length_set]; exact h.few⟩
  · rw [List.length_set, flatT_set ts i t l' hi]
    exact ownsRow_on h.row fun g e => hm.block g (h.row.lt g e).2 (by rw [h.pg g e]; exact n101)
  · rw [List.getElem?_set] at hj
    split at hj
    · rename_i e; subst e
      first
        | (cases hj; exact ht)
        | (rw [if_pos hlt] at hj; cases hj; exact ht)
    · rename_i hne
      exact (h.tw j u hj).moved hm (part0 i) (fun c h1 h2 => hne (part_apart h2 h1))
theorem ownsRow_cells {w : World} {g n cap base m : Nat} {e : TypeId} {xs : List Value} (h : w.ownsRow base e 2 (.slice (some ⟨g, 0, none⟩) n cap) m xs) {j : Nat} {u : Value} (hj : xs[j]? = some u) : w.cell? ⟨g, j, none⟩ = some u := by
  obtain ⟨h0, h1 | ⟨g', cap', cur, h1, h2, h3, h4, h5, h6, h7⟩⟩ := h
  · cases h1.1
  · cases h1
    rw [← h7, List.getElem?_take] at hj
    split at hj
    · simp only [World.cell?, h3]
      rw [← Array.getElem?_toList, hj]
      rfl
    · cases hj
theorem Wd.at {ρ : Nat → Nat} {w : World} {W : Nat} {most : Int} {av : Value} {ts : TS} (h : Wd ρ w W most av ts) (hne : 0 < ts.length) : ∃ g cap, av = .slice (some ⟨g, 0, none⟩) ts.length cap ∧ ts.length ≤ cap ∧ g < w.heap.size ∧ ∀ (i : Nat) t, ts[i]? = some t → w.cell? ⟨g, i * 2, none⟩ = some (.pointer (some ⟨t.1, 0, none⟩)) ∧ w.cell? ⟨g, i * 2 + 1, none⟩ = some (.pointer (some ⟨t.2.1, 0, none⟩)) := by
  have hr := h.row
  obtain ⟨g, cap, e, _, hlt⟩ := hr.form hne
  have hc : ts.length ≤ cap := by
    obtain ⟨h0, h1 | ⟨g', cap', cur, h1, h2, h3, h4, h5⟩⟩ := h.row
    · omega
    · rw [e] at h1; cases h1; exact h4
  refine ⟨g, cap, e, hc, hlt, fun i t hi => ?_⟩
  rw [e] at hr
  obtain ⟨a, b⟩ := flatT_get ts i t hi
  exact ⟨ownsRow_cells hr a, ownsRow_cells hr b⟩
theorem Wd.cellL {ρ : Nat → Nat} {w : World} {W : Nat} {most : Int} {av : Value} {ts : TS} (h : Wd ρ w W most av ts) : w.cell? ⟨W, 0, none⟩ = some av := by simp [World.cell?, h.blk]
theorem Wd.cellM {ρ : Nat → Nat} {w : World} {W : Nat} {most : Int} {av : Value} {ts : TS} (h : Wd ρ w W most av ts) : w.cell? ⟨W, 1, none⟩ = some (.int .i64 most) := by simp [World.cell?, h.blk]

/-- What has a part may turn, what has none may not. -/
def NZ (c : Nat) : Prop := 0 < c ∧ c < 150
theorem Moved.mono {R R' : Nat → Prop} {ρ ρ' : Nat → Nat} {w w' : World} (h : Moved R ρ w ρ' w') (hR : ∀ c, R c → R' c) : Moved R' ρ w ρ' w' :=
  ⟨h.os, h.tape, h.output, h.size, h.agree, h.fresh, fun k hk hn => h.block k hk (fun e => hn (hR _ e)), h.oth⟩
theorem Moved.nz {i : Nat} {ρ ρ' : Nat → Nat} {w w' : World} (h : Moved (Part i) ρ w ρ' w') (hi : i < 8) : Moved NZ ρ w ρ' w' := h.mono fun c e => by unfold Part at e; unfold NZ; omega

set_option maxHeartbeats 400000 in
theorem pick_any (c : Int) (n : Nat) (w : World) (hn : 0 < n) (hn2 : n ≤ 8) (hc : -9223372036854775808 ≤ c ∧ c ≤ 9223372036854775807) : Calls Tryz.prog 19 #[.int .i64 c, .int .i64 n] w fun e w' => (∃ j : Nat, j < n ∧ e = .returned (.int .i64 j)) ∧ w' = w := by
  have key : ∀ d : Int, 0 ≤ d → ∃ j : Nat, j < n ∧ d.tmod n = j := fun d hd => by
    refine ⟨(d.tmod n).toNat, ?_, ?_⟩
    · have := Int.tmod_lt_of_pos d (show (0 : Int) < n by omega)
      have := Int.tmod_nonneg (n : Int) hd
      omega
    · have := Int.tmod_nonneg (n : Int) hd
      omega
  have hn0 : ¬ (n : Int) = 0 := by omega
  by_cases h : c < 0
  · obtain ⟨j, h1, h2⟩ := key (-(c + 1)) (by omega)
    go_enter Tryz.func19, Tryz.ntmps19
    go_wp2
    go_ret
    refine ⟨⟨j, h1, ?_⟩, rfl⟩
    first | (rw [h2]; done) | (rw [← h2]; done) | (rw [← h2]; congr 2)
  · obtain ⟨j, h1, h2⟩ := key c (by omega)
    go_enter Tryz.func19, Tryz.ntmps19
    go_wp2
    go_ret
    refine ⟨⟨j, h1, ?_⟩, rfl⟩
    first | (rw [h2]; done) | (rw [← h2]; done) | (rw [← h2]; congr 2)

end Go.Proofs.YtcgjppacnhmjlaaGreat
