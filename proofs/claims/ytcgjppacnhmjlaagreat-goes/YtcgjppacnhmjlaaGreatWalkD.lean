/- Going through: Walk at every tree; what Scan gives. -/
import Derived.Test.YtcgjppacnhmjlaaGreatWalkC
import Derived.Test.YtcgjppacnhmjlaaGreatIndex
set_option linter.unusedVariables false
set_option linter.unusedSimpArgs false
namespace Go.Proofs.YtcgjppacnhmjlaaGreat
open Go.RowKit Go.Shelf
attribute [local go_sem] Oper.semAt_some

section
variable {α : Type} {S : Nat → Prop} {J Jx : List α → World → Prop} {val : α → KV} {fr to : ByteArray} {lb N n n₀ : Nat}
theorem WalkR.own {W W1 W' : World} {e : Ending} {p : List UInt8} {ov : Option Int} {xs : List UInt8} {gs : List (List KV)} {l : List KV} (hs : Shaped p ov xs gs l) {pre ys : List α} {x : α} (h : WalkR S J Jx to.data.toList gs.flatten (pre ++ [x]) ys W1 e W') (hk : Kept S W W1) : WalkR S J Jx to.data.toList l pre (x :: ys) W e W' := by
  rcases h with ⟨b, h1, h2, h3, h4⟩ | ⟨h1, q, h2, h3⟩
  · exact .inl ⟨b, h1, by simpa using h2, hk.trans h3, fun hb => by rw [hs.eq]; exact (h4 hb).app_right⟩
  · exact .inr ⟨h1, x :: q, by obtain ⟨r, hr⟩ := h2; exact ⟨r, by rw [← hr]; rfl⟩, by simpa using h3⟩
theorem WalkR.bare {W W1 W' : World} {e : Ending} {p : List UInt8} {ov : Option Int} {xs : List UInt8} {gs : List (List KV)} {l : List KV} (hs : Shaped p ov xs gs l) {pre ys : List α} (h : WalkR S J Jx to.data.toList gs.flatten pre ys W1 e W') (hk : Kept S W W1) : WalkR S J Jx to.data.toList l pre ys W e W' := by
  rcases h with ⟨b, h1, h2, h3, h4⟩ | h
  · exact .inl ⟨b, h1, h2, hk.trans h3, fun hb => by rw [hs.eq]; exact (h4 hb).app_right⟩
  · exact .inr h
theorem drewBelow (W : World) (q : Nat) : Below W.heap.size W (W.drewN q) := below_drewN'' (Below.refl _ _) q
/-- walkAll over a node's row of branches, in whatever world that keeps the tree. -/
theorem walkAll_row (hW : WalkOk S J Jx val fr to lb N n) {W W1 : World} {bv : Value} {cs : List Nat} {p : List UInt8} {xs : List UInt8} {gs : List (List KV)} {pre ys : List α} (hR : RowAt S W bv cs) (hl : cs.length = gs.length) (hC : ∀ (i c : Nat) g, cs[i]? = some c → gs[i]? = some g → RepN S n W c g)
    (hg : Grps p xs gs) (hk : Kept S W W1) (hJ : J pre W1) (hN : pre.length + ys.length ≤ N) (hy : ys.map val = rng fr.data.toList to.data.toList gs.flatten) :
    Calls Tryz.prog 62 #[bv, .string fr, .string to, .func (.yield lb) #[] #[]] W1 (WalkR S J Jx to.data.toList gs.flatten pre ys W1) := by
  rcases hR with ⟨rfl, rfl⟩ | ⟨k, o, cap, h1, rfl, h3, h4, h5, h6⟩
  · have hg0 : gs = [] := List.length_eq_zero_iff.mp (by rw [← hl]; rfl)
    subst hg0
    have hys : ys = [] := by simpa [rng] using hy
    subst hys
    exact walkAll_nil W1 none 0 pre hJ
  · have hcs : cs.length ≤ 256 := by have := pw_len hg.pw; have := hg.len; omega
    exact walkAll_some hW h1 (fun i c hc => hk.cell h1 (h5 i c hc)) hcs hl (fun i c g hc hgi => (hC i c g hc hgi).frame hk) hg.srtFlat hJ hN hy

theorem walk_ok (hG : Goes S n₀ J) (hY : YieldOk S J Jx val lb N) (hf : fr.size ≤ 9223372036854775807) : ∀ n, WalkOk S J Jx val fr to lb N n
  | 0 => fun W t l pre ys h _ _ _ => h.elim
  | n + 1 => fun W t l pre ys h hJ hN hy => by
    have ih := walk_ok hG hY hf n
    have hne := h.ne
    obtain ⟨p, vp, bv, ov, cs, xs, gs, hNd, hO, hR, hl, hC, hs⟩ := h
    by_cases hpast : to.data.toList ≠ [] ∧ ¬ klt p.data.toList to.data.toList
    · obtain ⟨h1, h2⟩ := hs.rng_past hne (fr := fr.data.toList) hpast.1 hpast.2
      rw [h1] at hy
      have hys : ys = [] := List.map_eq_nil_iff.mp hy
      subst hys
      exact walk_past hNd.c0 (by cases h3 : to.data.toList with | nil => exact absurd h3 hpast.1 | cons => rfl) (by cases h3 : Op.bytesLess p.data.toList to.data.toList with | false => rfl | true => exact absurd h3 hpast.2) hJ h2
    · have hto : to.data.toList.isEmpty = true ∨ Op.bytesLess p.data.toList to.data.toList = true := by
        cases h3 : to.data.toList with
        | nil => exact .inl rfl
        | cons a r =>
          right
          apply Classical.byContradiction
          intro h4
          exact hpast ⟨by rw [h3]; simp, by rw [h3]; exact h4⟩
      have hto2 : to.data.toList = [] ∨ klt p.data.toList to.data.toList := hto.imp (fun h => List.isEmpty_iff.mp h) (fun h => h)
      by_cases hfr : klt p.data.toList fr.data.toList
      · by_cases hpre : p.data.toList <+: fr.data.toList
        · have hkl : p.size < fr.size := by
            rw [Lib.size_eq, Lib.size_eq]
            rcases Nat.lt_or_eq_of_le hpre.length_le with h1 | h1
            · exact h1
            · have := hpre.eq_of_length h1
              rw [this] at hfr
              exact absurd hfr (klt_irrefl _)
          exact walk_ahead hNd.c0 hto hfr (behind_into hG ih hNd hR hl hC hs hf hkl hpre hJ hN hy)
        · rw [hs.rng_away hfr hpre] at hy
          have hys : ys = [] := List.map_eq_nil_iff.mp hy
          subst hys
          exact walk_ahead hNd.c0 hto hfr (behind_away hNd.c0 hNd.short hf hpre hJ)
      · have hfr2 : Op.bytesLess p.data.toList fr.data.toList = false := by cases h3 : Op.bytesLess p.data.toList fr.data.toList with | false => rfl | true => exact absurd h3 hfr
        rw [hs.rng_split, rng_own hfr hto2] at hy
        cases ov with
        | none =>
          have hvp : vp = none := hO
          subst hvp
          have hy2 : ys.map val = rng fr.data.toList to.data.toList gs.flatten := by simpa [ownL] using hy
          refine walk_bare hNd.c0 hNd.c1 hNd.c2 hto hfr2 (fun q => ?_)
          have hb := drewBelow W q
          exact (walkAll_row ih hR hl hC hs.grps (hG.kept hJ hb) (hG.later _ _ _ hJ hb) hN hy2).mono fun e W' h => (h.bare hs (hG.kept hJ hb)).ret
        | some v =>
          obtain ⟨vb, hvS, rfl, hvc⟩ := hO
          obtain ⟨y1, y2, rfl, h1, h2⟩ := map_split hy
          obtain ⟨x, rfl, hx⟩ : ∃ x, y1 = [x] ∧ val x = (p.data.toList, v) := by
            have hlen : y1.length = 1 := by have := congrArg List.length h1; simpa [ownL] using this
            obtain ⟨x, rfl⟩ := List.length_eq_one_iff.mp hlen
            exact ⟨x, rfl, by simpa [ownL] using h1⟩
          have hN1 : pre.length < N := by simp at hN; omega
          exact walk_own (ys := y2) hG hY hNd.c0 hNd.c1 hvc hNd.c2 hNd.inS hto hfr2 hx hJ hN1 (fun W1 hJ1 hK1 => (walkAll_row ih hR hl hC hs.grps hK1 hJ1 (by simp at hN ⊢; omega) h2).mono fun e W' h => (h.own hs hK1).ret)
/-- Walk at a tree, nil too. -/
theorem walk_tree (hG : Goes S n₀ J) (hY : YieldOk S J Jx val lb N) (hf : fr.size ≤ 9223372036854775807) {W : World} {tp : Option Addr} {l : List KV} {pre ys : List α} (hT : TreeN S n W tp l) (hJ : J pre W) (hN : pre.length + ys.length ≤ N) (hy : ys.map val = rng fr.data.toList to.data.toList l) :
    Calls Tryz.prog 43 #[.pointer tp, .string fr, .string to, .func (.yield lb) #[] #[]] W (WalkR S J Jx to.data.toList l pre ys W) := by
  rcases hT with ⟨rfl, rfl⟩ | ⟨t, rfl, hT⟩
  · have hys : ys = [] := by simpa [rng] using hy
    subst hys
    have HJ : Hid (J pre W) := hJ
    clear hJ hG hY hy
    go_enter Tryz.func43, Tryz.ntmps43
    go_wp2
    go_ret
    exact .inl ⟨true, rfl, by simpa using HJ.out, Kept.refl _ _, fun h => by cases h⟩
  · exact walk_ok hG hY hf n W t l pre ys hT hJ hN hy
end

end Go.Proofs.YtcgjppacnhmjlaaGreat
