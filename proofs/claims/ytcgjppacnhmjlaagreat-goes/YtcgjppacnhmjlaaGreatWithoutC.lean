/- Without answers the tree of the list without the key. -/
import Derived.Test.YtcgjppacnhmjlaaGreatWithoutB
set_option linter.unusedVariables false
set_option linter.unusedSimpArgs false
namespace Go.Proofs.YtcgjppacnhmjlaaGreat
open Go.RowKit

theorem removed_row {S : Nat → Prop} {w : World} {k o cap : Nat} {cs : List Nat} {pos : Nat} (hS : Open S w) (hb : BrAt w k o cs) (hcap : cs.length ≤ cap) (hmost : cap ≤ maxLen) (hpos : pos < cs.length) (hlen : cs.length ≤ 256) :
    Calls Tryz.prog 85 #[.slice (some ⟨k, o, none⟩) cs.length cap, .int .i64 pos] w fun e w' => ∃ bv', e = .returned bv' ∧ RowAt S w' bv' (cs.take pos ++ cs.drop (pos + 1)) ∧ Below w.heap.size w w' := by
  have hl := len_cut cs pos hpos
  by_cases h1 : cs.length = 1
  · rw [h1]
    refine (removed_one _ cap pos w).mono ?_
    rintro e w' ⟨rfl, rfl⟩
    exact ⟨_, rfl, .inl ⟨List.length_eq_zero_iff.mp (by omega), rfl⟩, Below.refl _ _⟩
  · refine (removed_some k o cap pos cs w hb hcap hlen hpos (by omega) hmost).mono ?_
    rintro e w' ⟨g, c, rfl, h⟩
    exact ⟨_, rfl, h.row hS (fun h0 => by rw [h0] at hl; simp at hl; omega), h.below⟩
theorem kids_cut {S : Nat → Prop} {w : World} {n pos : Nat} {cs : List Nat} {gs : List (List KV)} (hl : cs.length = gs.length) (hp : pos < cs.length) (hC : ∀ (i c : Nat) g, cs[i]? = some c → gs[i]? = some g → RepN S n w c g) :
    ∀ (i c : Nat) g, (cs.take pos ++ cs.drop (pos + 1))[i]? = some c → (gs.take pos ++ gs.drop (pos + 1))[i]? = some g → RepN S n w c g := by
  intro i c g hc hg
  rw [getElem?_cut _ _ _ hp] at hc
  rw [getElem?_cut _ _ _ (hl ▸ hp)] at hg
  split at hc
  · rw [if_pos ‹_›] at hg; exact hC _ c g hc hg
  · rw [if_neg ‹_›] at hg; exact hC _ c g hc hg
theorem len_del_le {V : Type} (k : List UInt8) (l : List (List UInt8 × V)) : (del k l).length ≤ l.length := List.length_filter_le _ _
theorem TreeN.fuel {S : Nat → Prop} {n m : Nat} {w : World} {tp : Option Addr} {l : List KV} (h : TreeN S n w tp l) (hnm : n ≤ m) : TreeN S m w tp l := by
  rcases h with h | ⟨t, h1, h2⟩
  · exact .inl h
  · exact .inr ⟨t, h1, h2.fuel hnm⟩

theorem without_any : ∀ (n : Nat) {S : Nat → Prop} {w : World} {t : Nat} {l : List KV} {key : ByteArray}, Open S w → RepN S n w t l → key.size ≤ 9223372036854775807 → l.length ≤ 1000000 →
    Calls Tryz.prog 69 #[.pointer (some ⟨t, 0, none⟩), .string key] w fun e w' => ∃ tp, e = .returned (.pointer tp) ∧ TreeN S n w' tp (del key.data.toList l) ∧ (lk key.data.toList l = none → tp = some ⟨t, 0, none⟩) ∧ Below w.heap.size w w'
  | 0, _, _, _, _, _, _, h, _, _ => h.elim
  | n + 1, S, w, t, l, key, hS, hT, hk, hm => by
    have hT0 := hT
    obtain ⟨pre, vp, bv, ov, cs, xs, gs, hN, hO, hR, hl, hC, hs⟩ := hT
    have hcs : cs.length ≤ 256 := by have := pw_len hs.grps.pw; have := hs.grps.len; omega
    have hdl := len_del_le key.data.toList l
    have same : ∀ {w'}, Below w.heap.size w w' → lk key.data.toList l = none → TreeN S (n + 1) w' (some ⟨t, 0, none⟩) (del key.data.toList l) := fun hb h0 => by
      rw [del_none h0]; exact .inr ⟨t, rfl, hT0.on hb⟩
    by_cases hp : Lib.hasPrefix key.data.toList pre.data.toList = true
    · have hpre : pre.data.toList <+: key.data.toList := List.isPrefixOf_iff_prefix.mp hp
      have hle : pre.size ≤ key.size := by have := hpre.length_le; rwa [← Lib.size_eq, ← Lib.size_eq] at this
      by_cases he : key.size = pre.size
      · have hK : key.data.toList = pre.data.toList := by
          have := List.prefix_iff_eq_take.mp hpre
          rw [this, ← Lib.size_eq, ← he, List.take_of_length_le (by simp)]
        refine without_own hN.c0 hk hN.short hp he ?_
        cases ov with
        | none =>
          obtain rfl : vp = none := hO
          refine (withoutOwn_none hN.c1).mono ?_
          rintro e w' ⟨rfl, rfl⟩
          exact ⟨_, rfl, _, rfl, same (Below.refl _ _) (by rw [hK]; exact hs.lk_own), fun _ => rfl, Below.refl _ _⟩
        | some v =>
          obtain ⟨vb, h1, rfl, h2⟩ := hO
          refine withoutOwn_some hN.c0 hN.c1 hN.c2 ?_
          intro m
          have hbm := below_drawn w m
          have hd : del key.data.toList l = ownL pre.data.toList none ++ gs.flatten := by rw [hK, hs.del_own]; rfl
          refine (settled_rep (S := S) (n := n) (hS.later hbm) hN.short (ov := none) rfl (hR.later hbm) hl (fun i c g h1 h2 => (hC i c g h1 h2).on hbm) hs.grps (by rw [← hd]; omega)).mono ?_
          rintro e w' ⟨tp, rfl, h3, h4⟩
          rw [← hd] at h3
          have hb := hbm.trans h4
          exact ⟨tp, rfl, hb, tp, rfl, tp, rfl, h3, (fun h0 => by rw [hK, hs.lk_own] at h0; cases h0), hb⟩
      · have hkl : pre.size < key.size := by omega
        have hkey := key_parts key pre.size hkl
        have hP : pre.data.toList = key.data.toList.take pre.size := by rw [Lib.size_eq]; exact (List.prefix_iff_eq_take.mp hpre)
        rw [← hP] at hkey
        have hB : BytesAt w pre.size cs xs := by rw [Lib.size_eq]; exact repBytes hl hC hs.grps
        by_cases hf : xs[posOf key[pre.size] xs]? = some key[pre.size]
        · obtain ⟨g, hg⟩ := hs.grps.grp hf
          have hpos : posOf key[pre.size] xs < cs.length := by rw [hl]; exact (List.getElem?_eq_some_iff.mp hg).1
          have hci : cs[posOf key[pre.size] xs]? = some cs[posOf key[pre.size] xs] := List.getElem?_eq_getElem hpos
          have hgl : g.length ≤ 1000000 := by
            have h2 : g.length ≤ gs.flatten.length := (List.sublist_flatten_of_mem (List.mem_of_getElem? hg)).length_le
            have h3 : l.length = (ownL pre.data.toList ov).length + gs.flatten.length := by rw [hs.eq, List.length_append]
            omega
          have hlkg := hs.lk_into hkey hf hg
          have hchild := hC _ _ _ hci hg
          rcases hR with ⟨rfl, _⟩ | ⟨k, o, cap, h1, rfl, h3, h4, h5, h6⟩
          · simp at hpos
          have hPl : ∀ w1, Below w.heap.size w w1 → Calls Tryz.prog 67 #[.pointer (some ⟨t, 0, none⟩), .string key] w1 fun e w' => e = .returned (.tuple #[.int .i64 (posOf key[pre.size] xs : Nat), .bool true]) ∧ Below w.heap.size w w' := by
            intro w1 hb1
            refine (place_rep (S := S) (n := n) (cell_later hb1 hN.c0) (cell_later hb1 hN.c2) (.inr ⟨k, o, cap, h1, rfl, h3, h4, h5.later hb1, h6⟩) (hB.later hb1) hs.grps.pw hk hkl).mono ?_
            rintro e w' ⟨rfl, h⟩
            exact ⟨by rw [hf]; simp, hb1.trans (h.mono hb1.size)⟩
          have hW := fun w1 (hb1 : Below w.heap.size w w1) => without_any n (key := key) (hS.later hb1) (hchild.on hb1) hk hgl
          cases hlv : lk key.data.toList g with
          | none =>
            refine (without_same hN.c0 hk hN.short hN.c1 hN.c2 (h5 _ _ hci) hpos hcs hp he hPl ?_).mono ?_
            · intro w1 hb1
              refine (hW w1 hb1).mono ?_
              rintro e w' ⟨tp, rfl, _, h8, h9⟩
              rw [h8 hlv]
              exact ⟨rfl, hb1.trans (h9.mono hb1.size)⟩
            · rintro e w' ⟨rfl, hb⟩
              exact ⟨_, rfl, same hb (hlkg.trans hlv), fun _ => rfl, hb⟩
          | some v =>
            have hnn : ∀ {P : Prop}, lk key.data.toList l = none → P := fun h0 => by rw [hlkg, hlv] at h0; cases h0
            by_cases hd : del key.data.toList g = []
            · obtain ⟨hG, hde⟩ := hs.del_away hkey hf hg hd
              refine without_gone (L1 := fun _ => True) (L2 := fun w' bv' => RowAt S w' bv' (cs.take (posOf key[pre.size] xs) ++ cs.drop (posOf key[pre.size] xs + 1)))
                hN.c0 hk hN.short hN.c1 hN.c2 (h5 _ _ hci) hpos hcs hp he hPl ?_ (fun _ h => h) ?_ ?_
              · intro w1 hb1
                refine (hW w1 hb1).mono ?_
                rintro e w' ⟨tp, rfl, h7, _, h9⟩
                rcases h7 with ⟨rfl, _⟩ | ⟨t2, rfl, h7⟩
                · exact ⟨⟨rfl, trivial⟩, hb1.trans (h9.mono hb1.size)⟩
                · exact absurd hd h7.ne
              · intro w1 _ hb1
                refine (removed_row (hS.later hb1) (h5.later hb1) h3 h4 hpos hcs).mono ?_
                rintro e w' ⟨bv', rfl, h8, h9⟩
                exact ⟨bv', rfl, h8, hb1.trans (h9.mono hb1.size)⟩
              · intro w1 bv' h8 hb1
                refine (settled_rep (S := S) (n := n) (hS.later hb1) hN.short (hO.later hb1) h8 ?_ (kids_cut hl hpos (fun i c g h1 h2 => (hC i c g h1 h2).on hb1)) hG (by rw [← hde]; omega)).mono ?_
                · have := len_cut cs _ hpos; have := len_cut gs _ (hl ▸ hpos); omega
                rintro e w' ⟨tp, rfl, h9, h10⟩
                rw [← hde] at h9
                have hb := hb1.trans (h10.mono hb1.size)
                exact ⟨tp, rfl, hb, tp, rfl, h9, fun h0 => hnn h0, hb⟩
            · have hS2 := hs.del_into hkey hf hg hd
              have hlend := len_del hchild.srt hlv
              refine without_less (L1 := fun w' t2 => RepN S n w' t2 (del key.data.toList g)) (L2 := fun w' bv' => ∃ t2, RepN S n w' t2 (del key.data.toList g) ∧ RowAt S w' bv' (cs.take (posOf key[pre.size] xs) ++ t2 :: cs.drop (posOf key[pre.size] xs + 1)))
                hN.c0 hk hN.short hN.c1 hN.c2 (h5 _ _ hci) hpos hcs hp he hPl ?_ (fun w1 t2 h => h.on (Below.refl _ _).drew) ?_ ?_ ?_
              · intro w1 hb1
                refine (hW w1 hb1).mono ?_
                rintro e w' ⟨tp, rfl, h7, _, h9⟩
                rcases h7 with ⟨_, h7⟩ | ⟨t2, rfl, h7⟩
                · exact absurd h7 hd
                · exact ⟨⟨t2, rfl, h7⟩, hb1.trans (h9.mono hb1.size)⟩
              · intro w1 t2 h7 hb1
                refine ⟨?_, (hchild.on hb1).blk, h7.blk⟩
                rintro rfl
                have e1 := (hchild.on hb1).size
                rw [h7.size] at e1
                have : ((del key.data.toList g).length : Int) = (g.length : Int) := by simpa using e1
                omega
              · intro w1 t2 h7 hb1
                refine (replaced_row (hS.later hb1) (h5.later hb1) h3 h4 hpos hcs).mono ?_
                rintro e w' ⟨bv', rfl, h8, h9⟩
                exact ⟨bv', rfl, ⟨t2, h7.on h9, h8⟩, hb1.trans (h9.mono hb1.size)⟩
              · rintro w1 bv' ⟨t2, h7, h8⟩ hb1
                refine (settled_rep (S := S) (n := n) (hS.later hb1) hN.short (hO.later hb1) h8 ?_ (kids_rep hl hpos (fun i c g h1 h2 => (hC i c g h1 h2).on hb1) h7) hS2.grps (by rw [← hS2.eq]; omega)).mono ?_
                · simp; omega
                rintro e w' ⟨tp, rfl, h9, h10⟩
                rw [← hS2.eq] at h9
                have hb := hb1.trans (h10.mono hb1.size)
                exact ⟨tp, rfl, hb, tp, rfl, h9, fun h0 => hnn h0, hb⟩
        · refine (without_none hN.c0 hk hN.short hp he (pos := posOf key[pre.size] xs) ?_).mono ?_
          · intro w1 hb1
            refine (place_rep (S := S) (n := n) (cell_later hb1 hN.c0) (cell_later hb1 hN.c2) (hR.later hb1) (hB.later hb1) hs.grps.pw hk hkl).mono ?_
            rintro e w' ⟨rfl, h⟩
            exact ⟨by rw [decide_eq_false hf], hb1.trans (h.mono hb1.size)⟩
          · rintro e w' ⟨rfl, hb⟩
            exact ⟨_, rfl, same hb (hs.lk_beside hkey hf), fun _ => rfl, hb⟩
    · have hpf : Lib.hasPrefix key.data.toList pre.data.toList = false := by simpa using hp
      refine (without_apart hN.c0 hk hN.short hpf).mono ?_
      rintro e w' ⟨rfl, rfl⟩
      exact ⟨_, rfl, same (Below.refl _ _) (hs.lk_front fun h => hp (List.isPrefixOf_iff_prefix.mpr h)), fun _ => rfl, Below.refl _ _⟩

end Go.Proofs.YtcgjppacnhmjlaaGreat
