/- played: a script of steps; in the end all is asked for. -/
import Derived.Test.YtcgjppacnhmjlaaGreatTwinH
set_option linter.unusedVariables false
set_option linter.unusedSimpArgs false
namespace Go.Proofs.YtcgjppacnhmjlaaGreat
open Go.RowKit
attribute [local go_sem ↓] Go.wp_at_zero Go.wp_at_succ

def OpCells (w : World) (k p : Nat) (o : OpD) : Prop := w.cell? ⟨k, p, none⟩ = some (.int .i64 o.kind) ∧ w.cell? ⟨k, p + 1, none⟩ = some (.int .i64 o.on) ∧ w.cell? ⟨k, p + 2, none⟩ = some (.int .i64 o.other) ∧ w.cell? ⟨k, p + 3, none⟩ = some (.string o.key) ∧ w.cell? ⟨k, p + 4, none⟩ = some (.string o.till) ∧ w.cell? ⟨k, p + 5, none⟩ = some (.int .i64 o.n) ∧ w.cell? ⟨k, p + 6, none⟩ = some (.slice o.pa o.pl o.pc) ∧ w.cell? ⟨k, p + 7, none⟩ = some (.slice o.fa o.fl o.fc) ∧ w.cell? ⟨k, p + 8, none⟩ = some (.slice o.ma o.ml o.mc)
def OpsAt (w : World) (v : Value) (ops : List OpD) : Prop := ∃ ao k p cap, v = .slice ao ops.length cap ∧ ∀ (i : Nat) o, ops[i]? = some o → ao = some ⟨k, p, none⟩ ∧ OpCells w k (p + i * 9) o
def OpFits (o : OpD) : Prop := (-9223372036854775808 ≤ o.on ∧ o.on ≤ 9223372036854775807) ∧ o.key.size ≤ 9223372036854775807
theorem OpCells.on {n : Nat} {w w' : World} {k p : Nat} {o : OpD} (h : OpCells w k p o) (hb : Below w.heap.size w w') : OpCells w' k p o := by
  obtain ⟨a, b, c, d, e, f, g, i, j⟩ := h
  exact ⟨cell_later hb a, cell_later hb b, cell_later hb c, cell_later hb d, cell_later hb e, cell_later hb f, cell_later hb g, cell_later hb i, cell_later hb j⟩

/-- A script under way, begun in the world w. -/
def St (w : World) (W : Nat) (most : Int) (av : Value) (n : Nat) (wr : World) : Prop := ∃ ρ ts, (∀ k, k < w.heap.size → ρ k = 0) ∧ Below w.heap.size w wr ∧ Wd ρ wr W most av ts ∧ ts.length = n
theorem Moved.below {ρ ρ' : Nat → Nat} {w wr w' : World} (hz : ∀ k, k < w.heap.size → ρ k = 0) (hb : Below w.heap.size w wr) (hm : Moved NZ ρ wr ρ' w') : (∀ k, k < w.heap.size → ρ' k = 0) ∧ Below w.heap.size w w' :=
  ⟨fun k hk => (hm.agree k (Nat.lt_of_lt_of_le hk hb.size)).trans (hz k hk), ⟨hm.os.trans hb.os, hm.tape.trans hb.tape, hm.output.trans hb.output, Nat.le_trans hb.size hm.size, fun k hk => (hm.block k (Nat.lt_of_lt_of_le hk hb.size) (by rw [hz k hk]; exact fun h => Nat.lt_irrefl _ h.1)).trans (hb.block k hk)⟩⟩
theorem St.after {w wr w' : World} {W : Nat} {most : Int} {av : Value} {ps : List (Nat × Nat)} {ρ : Nat → Nat} (hz : ∀ k, k < w.heap.size → ρ k = 0) (hb : Below w.heap.size w wr) (h : After ρ wr W most av ps w') : St w W most av ps.length w' := by
  obtain ⟨ρ', ts', hm, hW, hl⟩ := h
  obtain ⟨h1, h2⟩ := hm.below hz hb
  exact ⟨ρ', ts', h1, h2, hW, by rw [← hl, List.length_map]⟩
theorem St.on {w wr w' : World} {W : Nat} {most : Int} {av : Value} {n : Nat} (h : St w W most av n wr) (hb : Below wr.heap.size wr w') : St w W most av n w' := by
  obtain ⟨ρ, ts, h1, h2, h3, h4⟩ := h
  exact ⟨ρ, ts, h1, h2.trans (hb.mono h2.size), h3.on hb, h4⟩
theorem St.step {w wr : World} {W : Nat} {most : Int} {av : Value} {n : Nat} {o : OpD} (h : St w W most av n wr) (hn : 0 < n) (hm : most < 10) (hk : o.kind < 6) (ho : OpFits o) :
    Calls Tryz.prog 11 #[.pointer (some ⟨W, 0, none⟩), .agg #[.int .i64 o.kind, .int .i64 o.on, .int .i64 o.other, .string o.key, .string o.till, .int .i64 o.n, .slice o.pa o.pl o.pc, .slice o.fa o.fl o.fc, .slice o.ma o.ml o.mc]] wr fun e w' => e = .returned (.bool true) ∧ St w W most av n w' := by
  obtain ⟨ρ, ts, h1, h2, h3, rfl⟩ := h
  exact (step_any (o := o) h3 hn hm hk ho.1 ho.2).mono fun e w' he => ⟨he.1, by have := St.after h1 h2 he.2; rwa [List.length_map] at this⟩
/-- What is asked of one index in the end. -/
structure Fin1 (wr : World) (W g cap n i x r : Nat) (ao : Option Addr) (ga cp m : Nat) (w1 : World) : Prop where
  cl : w1.cell? ⟨W, 0, none⟩ = some (.slice (some ⟨g, 0, none⟩) n cap)
  cx : w1.cell? ⟨g, i * 2, none⟩ = some (.pointer (some ⟨x, 0, none⟩))
  cr : w1.cell? ⟨g, i * 2 + 1, none⟩ = some (.pointer (some ⟨r, 0, none⟩))
  cL : w1.cell? ⟨r, 0, none⟩ = some (.slice ao m cp)
  key : ∀ (k : Nat), k < m → ∃ key : ByteArray, key.size ≤ 64 ∧ ao = some ⟨ga, 0, none⟩ ∧ ∀ w2, Below wr.heap.size wr w2 → w2.cell? ⟨ga, k * 2, none⟩ = some (.string key)
  len : Calls Tryz.prog 12 #[.pointer (some ⟨x, 0, none⟩)] w1 fun e w' => e = .returned (.int .i64 m) ∧ w' = w1
  get : ∀ key : ByteArray, key.size ≤ 64 → Calls Tryz.prog 13 #[.agg #[.pointer (some ⟨x, 0, none⟩), .pointer (some ⟨r, 0, none⟩)], .string key] w1 fun e w' => e = .returned (.bool true) ∧ Below w1.heap.size w1 w'
  shaped : Calls Tryz.prog 14 #[.agg #[.pointer (some ⟨x, 0, none⟩), .pointer (some ⟨r, 0, none⟩)]] w1 fun e w' => e = .returned (.bool true) ∧ Below w1.heap.size w1 w'
theorem St.at {w wr : World} {W : Nat} {most : Int} {g cap n : Nat} (h : St w W most (.slice (some ⟨g, 0, none⟩) n cap) n wr) {i : Nat} (hi : i < n) :
    ∃ x r ao ga cp m, m ≤ 3000 ∧ x < wr.heap.size ∧ r < wr.heap.size ∧ ∀ w1, Below wr.heap.size wr w1 → Fin1 wr W g cap n i x r ao ga cp m w1 := by
  obtain ⟨ρ, ts, h1, h2, h3, h4⟩ := h
  obtain ⟨g', cap', e1, hcap, hg, hrow⟩ := h3.at (by omega)
  cases e1
  obtain ⟨t, ht⟩ : ∃ t, ts[i]? = some t := ⟨_, List.getElem?_eq_getElem (by omega)⟩
  obtain ⟨c1, c2⟩ := hrow i t ht
  have hT := h3.tw i t ht
  obtain ⟨av', hR, hg'⟩ := hT.ref
  obtain ⟨ao, ga, cp, rfl, hp⟩ : ∃ ao ga cp, av' = .slice ao t.2.2.length cp ∧ ∀ (k : Nat) e, t.2.2[k]? = some e → ao = some ⟨ga, 0, none⟩ ∧ wr.cell? ⟨ga, k * 2, none⟩ = some (.string (keyOf e)) := by
    rcases hR.cases with ⟨hl, rfl⟩ | ⟨ga, cp, rfl, hp, _⟩
    · exact ⟨none, 0, 0, by rw [hl]; rfl, fun k e he => by rw [hl] at he; simp at he⟩
    · exact ⟨_, ga, cp, rfl, fun k e he => ⟨rfl, (hp k e he).1⟩⟩
  refine ⟨t.1, t.2.1, ao, ga, cp, t.2.2.length, hR.few, hT.ix.lt, idx_lt hR.blk, fun w1 hb => ⟨cell_later hb h3.cellL, cell_later hb c1, cell_later hb c2, cell_later hb hR.cell, fun k hk => ?_, indexLen_any (hT.on hb h3.fresh).ix, fun key hkey => ?_, ?_⟩⟩
  · obtain ⟨e, he⟩ : ∃ e, t.2.2[k]? = some e := ⟨_, List.getElem?_eq_getElem hk⟩
    obtain ⟨a, b⟩ := hp k e he
    refine ⟨keyOf e, ?_, a, fun w2 hb2 => cell_later hb2 b⟩
    have := hR.short e (List.mem_of_getElem? he)
    show e.1.toArray.size ≤ 64
    simpa using this
  · exact tget_any (hT.on hb h3.fresh) (h3.on hb).fresh (by omega)
  · exact tshaped_any (hT.on hb h3.fresh) (h3.on hb).fresh

end Go.Proofs.YtcgjppacnhmjlaaGreat
