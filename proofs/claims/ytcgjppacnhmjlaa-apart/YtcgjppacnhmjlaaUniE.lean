/- One block is the tree of one list alone. -/
import Derived.Test.YtcgjppacnhmjlaaUniD
set_option linter.unusedVariables false
set_option linter.unusedSimpArgs false
namespace Go.Proofs.Ytcgjppacnhmjlaa
open Go.RowKit

theorem OwnAt.uniq {S S' : Nat → Prop} {w : World} {vp : Option Addr} {o o' : Option ByteArray} (h : OwnAt S w vp o) (h' : OwnAt S' w vp o') : o = o' := by
  cases o with
  | none =>
    cases o' with
    | none => rfl
    | some v => obtain ⟨vb, _, h2, _⟩ := h'; have h1 : vp = none := h; rw [h1] at h2; cases h2
  | some v =>
    obtain ⟨vb, _, h2, h3⟩ := h
    cases o' with
    | none => have h1 : vp = none := h'; rw [h1] at h2; cases h2
    | some v' =>
      obtain ⟨vb', _, h4, h5⟩ := h'
      rw [h2] at h4; cases h4
      rw [h3] at h5; cases h5; rfl
theorem RowAt.uniq {S S' : Nat → Prop} {w : World} {bv : Value} {cs cs' : List Nat} (h : RowAt S w bv cs) (h' : RowAt S' w bv cs') : cs = cs' := by
  rcases h with ⟨rfl, rfl⟩ | ⟨k, o, cap, _, rfl, _, _, h5, h6⟩
  · rcases h' with ⟨rfl, _⟩ | ⟨k', o', cap', _, h2, _⟩
    · rfl
    · cases h2
  · rcases h' with ⟨_, h2⟩ | ⟨k', o', cap', _, h2, _, _, h7, h8⟩
    · cases h2
    · simp only [Value.slice.injEq, Option.some.injEq, Addr.mk.injEq] at h2
      obtain ⟨⟨rfl, rfl, _⟩, hl, rfl⟩ := h2
      refine List.ext_getElem? fun i => ?_
      by_cases hi : i < cs.length
      · have e1 := List.getElem?_eq_getElem hi
        have e2 := List.getElem?_eq_getElem (l := cs') (i := i) (by omega)
        have h9 := h5 i _ e1
        have h10 := h7 i _ e2
        rw [h9] at h10
        simp only [Option.some.injEq, Value.pointer.injEq, Addr.mk.injEq] at h10
        rw [e1, e2, h10.1]
      · rw [List.getElem?_eq_none (by omega), List.getElem?_eq_none (by omega)]
theorem RepN.uniq {S S' : Nat → Prop} {w : World} : ∀ {n m b : Nat} {l l' : List KV}, RepN S n w b l → RepN S' m w b l' → l = l'
  | 0, _, _, _, _, h, _ => h.elim
  | n + 1, 0, _, _, _, _, h => h.elim
  | n + 1, m + 1, b, l, l', ⟨pre, vp, bv, ov, cs, xs, gs, hN, hO, hR, hl, hC, hs⟩, ⟨pre', vp', bv', ov', cs', xs', gs', hN', hO', hR', hl', hC', hs'⟩ => by
    have e1 := hN.c0.symm.trans hN'.c0
    have e2 := hN.c1.symm.trans hN'.c1
    have e3 := hN.c2.symm.trans hN'.c2
    simp only [Option.some.injEq, Value.string.injEq, Value.pointer.injEq] at e1 e2 e3
    subst e1; subst e2; subst e3
    have e4 := hO.uniq hO'
    have e5 := hR.uniq hR'
    subst e4; subst e5
    have e6 : gs = gs' := by
      refine List.ext_getElem? fun i => ?_
      by_cases hi : i < cs.length
      · have c1 := List.getElem?_eq_getElem hi
        have c2 := List.getElem?_eq_getElem (l := gs) (i := i) (by omega)
        have c3 := List.getElem?_eq_getElem (l := gs') (i := i) (by omega)
        rw [c2, c3, RepN.uniq (hC i _ _ c1 c2) (hC' i _ _ c1 c3)]
      · rw [List.getElem?_eq_none (by omega), List.getElem?_eq_none (by omega)]
    subst e6
    rw [hs.eq, hs'.eq]

end Go.Proofs.Ytcgjppacnhmjlaa
