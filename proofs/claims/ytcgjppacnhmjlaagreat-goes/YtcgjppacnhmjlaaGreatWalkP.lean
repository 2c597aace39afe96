/- The keys from one on and ahead of another, among sorted pairs: no program in it. -/
import Derived.Test.YtcgjppacnhmjlaaGreatPureD
set_option linter.unusedVariables false
set_option linter.unusedSimpArgs false
namespace Go.Proofs.YtcgjppacnhmjlaaGreat
variable {V : Type}

/-- From fr on, and ahead of to (none: all that come). -/
def inR (fr to k : List UInt8) : Bool := !(Op.bytesLess k fr) && (to.isEmpty || Op.bytesLess k to)
theorem inR_iff {fr to k : List UInt8} : inR fr to k = true ↔ ¬ klt k fr ∧ (to = [] ∨ klt k to) := by
  unfold inR klt
  cases to <;> simp
def rng (fr to : List UInt8) (l : List (List UInt8 × V)) : List (List UInt8 × V) := l.filter fun e => inR fr to e.1
theorem mem_rng {fr to : List UInt8} {l : List (List UInt8 × V)} {e : List UInt8 × V} : e ∈ rng fr to l ↔ e ∈ l ∧ ¬ klt e.1 fr ∧ (to = [] ∨ klt e.1 to) := by
  simp [rng, List.mem_filter, inR_iff]
theorem rng_app (fr to : List UInt8) (a b : List (List UInt8 × V)) : rng fr to (a ++ b) = rng fr to a ++ rng fr to b := by simp [rng]
theorem rng_none {fr to : List UInt8} {l : List (List UInt8 × V)} (h : ∀ e ∈ l, klt e.1 fr ∨ (to ≠ [] ∧ ¬ klt e.1 to)) : rng fr to l = [] := by
  apply List.filter_eq_nil_iff.mpr
  intro e he
  rw [inR_iff]
  rintro ⟨h1, h2⟩
  rcases h e he with h3 | ⟨h3, h4⟩
  · exact h1 h3
  · rcases h2 with h2 | h2
    · exact h3 h2
    · exact h4 h2
theorem pre_le {p k : List UInt8} (h : p <+: k) : k = p ∨ klt p k := by
  obtain ⟨r, rfl⟩ := h
  cases r with
  | nil => exact .inl (by simp)
  | cons x r => exact .inr (klt_pre p x r)
theorem pre_not {p k to : List UInt8} (h : p <+: k) (ht : ¬ klt p to) : ¬ klt k to := by
  intro h2
  rcases pre_le h with h3 | h3
  · rw [h3] at h2; exact ht h2
  · exact ht (klt_trans h3 h2)
/-- Something is there that is not ahead of to. -/
def Past (to : List UInt8) (l : List (List UInt8 × V)) : Prop := to ≠ [] ∧ ∃ e ∈ l, ¬ klt e.1 to
theorem Past.app_left {to : List UInt8} {a b : List (List UInt8 × V)} (h : Past to a) : Past to (a ++ b) := ⟨h.1, by obtain ⟨e, h1, h2⟩ := h.2; exact ⟨e, by simp [h1], h2⟩⟩
theorem Past.app_right {to : List UInt8} {a b : List (List UInt8 × V)} (h : Past to b) : Past to (a ++ b) := ⟨h.1, by obtain ⟨e, h1, h2⟩ := h.2; exact ⟨e, by simp [h1], h2⟩⟩
/-- Behind it nothing more is in the range. -/
theorem Past.rest {fr to : List UInt8} {a b : List (List UInt8 × V)} (h : Past to a) (hs : Srt (a ++ b)) : rng fr to b = [] := by
  obtain ⟨h0, e, h1, h2⟩ := h
  refine rng_none fun x hx => .inr ⟨h0, fun h3 => h2 (klt_trans ?_ h3)⟩
  exact (List.pairwise_append.mp hs).2.2 e h1 x hx
section
variable {p xs : List UInt8} {ov : Option V} {gs : List (List (List UInt8 × V))} {l : List (List UInt8 × V)}
theorem Shaped.rng_past (h : Shaped p ov xs gs l) (hne : l ≠ []) {fr to : List UInt8} (h0 : to ≠ []) (ht : ¬ klt p to) : rng fr to l = [] ∧ Past to l := by
  refine ⟨rng_none fun e he => .inr ⟨h0, pre_not (h.front he) ht⟩, h0, ?_⟩
  obtain ⟨e, he⟩ := List.exists_mem_of_ne_nil _ hne
  exact ⟨e, he, pre_not (h.front he) ht⟩
theorem Shaped.rng_split (h : Shaped p ov xs gs l) (fr to : List UInt8) : rng fr to l = rng fr to (ownL p ov) ++ rng fr to gs.flatten := by
  rw [h.eq, rng_app]
theorem rng_own {fr to : List UInt8} (h1 : ¬ klt p fr) (h2 : to = [] ∨ klt p to) : rng fr to (ownL p ov) = ownL p ov := by
  apply List.filter_eq_self.mpr
  intro e he
  rw [inR_iff, (mem_ownL.mp he).1]
  exact ⟨h1, h2⟩
theorem rng_own_no {fr to : List UInt8} (h1 : klt p fr) : rng fr to (ownL p ov) = [] := rng_none fun e he => .inl (by rw [(mem_ownL.mp he).1]; exact h1)
theorem klt_apart {p fr k : List UInt8} (h1 : klt p fr) (h2 : ¬ p <+: fr) (h3 : p <+: k) : klt k fr := by
  obtain ⟨r, rfl⟩ := h3
  induction p generalizing fr with
  | nil => exact absurd (List.nil_prefix) h2
  | cons a p ih =>
    cases fr with
    | nil => exact absurd h1 (klt_nil_right _)
    | cons b fr =>
      rw [List.cons_append]
      rcases klt_cons.mp h1 with h | ⟨rfl, h⟩
      · exact klt_cons.mpr (.inl h)
      · exact klt_cons.mpr (.inr ⟨rfl, ih h (fun h' => h2 (List.cons_prefix_cons.mpr ⟨rfl, h'⟩))⟩)
theorem Shaped.rng_away (h : Shaped p ov xs gs l) {fr to : List UInt8} (h1 : klt p fr) (h2 : ¬ p <+: fr) : rng fr to l = [] := rng_none fun e he => .inl (klt_apart h1 h2 (h.front he))
theorem Grps.rng_into (h : Grps p xs gs) {fr to r : List UInt8} {c : UInt8} (hf : fr = p ++ c :: r) : rng fr to (gs.take (posOf c xs)).flatten = [] := by
  refine rng_none fun e he => .inl ?_
  obtain ⟨i, g, hg, heg⟩ := mem_flat.mp he
  have hlt : i < posOf c xs := by
    have := (List.getElem?_eq_some_iff.mp hg).1
    rw [List.length_take] at this; omega
  rw [List.getElem?_take_of_lt hlt] at hg
  obtain ⟨x, hx⟩ := h.byte hg
  obtain ⟨q, hq⟩ := h.pre i x g hx hg e heg
  rw [hq, hf]
  exact klt_byte p _ _ ((posOf_spec c xs h.pw).2.1 i x hlt hx)
theorem Shaped.rng_behind (h : Shaped p ov xs gs l) {fr to r : List UInt8} {c : UInt8} (hf : fr = p ++ c :: r) : rng fr to l = rng fr to (gs.drop (posOf c xs)).flatten := by
  rw [h.rng_split, rng_own_no (by rw [hf]; exact klt_pre p c r), List.nil_append]
  conv => lhs; rw [← List.take_append_drop (posOf c xs) gs, List.flatten_append, rng_app, h.grps.rng_into hf]
  rfl
end
theorem map_split {α β : Type} {f : α → β} {ys : List α} {a b : List β} (h : ys.map f = a ++ b) : ∃ y1 y2, ys = y1 ++ y2 ∧ y1.map f = a ∧ y2.map f = b := by
  obtain ⟨y1, y2, h1, h2, h3⟩ := List.map_eq_append_iff.mp h
  exact ⟨y1, y2, h1, h2, h3⟩
theorem drop_flat {α : Type} (gs : List (List α)) (i : Nat) (g : List α) (h : gs[i]? = some g) : (gs.drop i).flatten = g ++ (gs.drop (i + 1)).flatten := by
  have hlt := (List.getElem?_eq_some_iff.mp h).1
  rw [List.drop_eq_getElem_cons hlt, (List.getElem?_eq_some_iff.mp h).2]
  rfl

end Go.Proofs.YtcgjppacnhmjlaaGreat
