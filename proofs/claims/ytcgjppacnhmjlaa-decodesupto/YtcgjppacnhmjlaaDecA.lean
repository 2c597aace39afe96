/- Decodes: what both readers answer, and rows that are appended to time and again. -/
import Derived.Test.YtcgjppacnhmjlaaTupY
import Derived.Deep.DeepAppendRoom
import Derived.Deep.RegionLawGrows
set_option linter.unusedVariables false
set_option linter.unusedSimpArgs false
namespace Go.Proofs.Ytcgjppacnhmjlaa
open Go.RowKit Go.Shelf
attribute [local go_sem ↓] Go.wp_at_zero Go.wp_at_succ

open Classical in
/-- What Decode answers: a tuple, an error. -/
noncomputable def decR (ks : List Int) (t : Bs) : List ValD × Int := if IsSch ks then (match rdAll ks t with | none => ([], 5) | some vs => (vs, 0)) else ([], 3)
theorem decR_len (ks : List Int) (t : Bs) : (decR ks t).1.length ≤ 6 := by
  unfold decR
  split
  · rename_i h
    split
    · simp
    · rename_i vs hv
      have := rdAll_len hv
      have := h.1.2
      dsimp only; omega
  · simp
theorem row_up {w : World} {e : TypeId} {size n B g cap : Nat} {xs : List Value} (h : w.ownsRow 0 e size (.slice (some ⟨g, 0, none⟩) n cap) n xs) (hB : B ≤ g) : w.ownsRow B e size (.slice (some ⟨g, 0, none⟩) n cap) n xs := by
  obtain ⟨h0, h1 | ⟨g', cap', cur, h1, h2, h3⟩⟩ := h
  · exact ⟨h0, .inl h1⟩
  · have : g' = g := by simp only [Value.slice.injEq, Option.some.injEq, Addr.mk.injEq] at h1; exact h1.1.1.symm
    subst this
    exact ⟨h0, .inr ⟨g', cap', cur, h1, hB, h3⟩⟩
/-- A row of values that the call has made, maybe none. -/
abbrev VRow (B : Nat) (w : World) (v : Value) (vs : List ValD) : Prop := w.ownsRow B 62 3 v vs.length (flatV vs)
theorem VRow.vals {B : Nat} {w : World} {ao : Option Addr} {n cap : Nat} {vs : List ValD} (h : VRow B w (.slice ao n cap) vs) : ValsAt w (.slice ao n cap) vs := by
  have h' := h
  obtain ⟨h0, h1 | ⟨g, cap', cur, h1, h2, h3, h4, h5, h6, h7⟩⟩ := h
  · have hv : vs = [] := List.length_eq_zero_iff.mp h1.2
    subst hv
    have := h1.1
    simp only [Value.slice.injEq] at this
    obtain ⟨rfl, rfl, rfl⟩ := this
    exact ⟨none, 0, 0, 0, rfl, Nat.le_refl _, fun i u hu => by simp at hu⟩
  · simp only [Value.slice.injEq] at h1
    obtain ⟨rfl, rfl, rfl⟩ := h1
    refine ⟨_, g, 0, cap, rfl, h4, fun i u hu => ?_⟩
    obtain ⟨a, b, c⟩ := flatV_get vs i u hu
    refine ⟨rfl, ?_, ?_, ?_⟩
    · have := rowCells h' a; simpa using this
    · have := rowCells h' b; simpa using this
    · have := rowCells h' c; simpa using this
theorem VRow.lens {B : Nat} {w : World} {ao : Option Addr} {n cap : Nat} {vs : List ValD} (h : VRow B w (.slice ao n cap) vs) : n = vs.length ∧ n ≤ cap := by
  obtain ⟨h0, h1 | ⟨g, cap', cur, h1, h2, h3, h4, h5, h6, h7⟩⟩ := h
  · have := h1.1
    simp only [Value.slice.injEq] at this
    obtain ⟨_, rfl, rfl⟩ := this
    exact ⟨h1.2.symm, Nat.le_refl _⟩
  · simp only [Value.slice.injEq] at h1
    obtain ⟨rfl, rfl, rfl⟩ := h1
    exact ⟨rfl, h4⟩
theorem decodeU {w : World} {v : Value} {ks : List Int} {s : ByteArray} (hv : IntsAt w v ks) (hl : ks.length ≤ 9223372036854775807) (hs : s.size ≤ 4000000000) :
    Calls Try.prog 25 #[v, .string s] w fun e w' => ∃ ao ac, e = .returned (.tuple #[.slice ao (decR ks s.data.toList).1.length ac, .int .i64 (decR ks s.data.toList).2]) ∧ VRow w.heap.size w' (.slice ao (decR ks s.data.toList).1.length ac) (decR ks s.data.toList).1 ∧ Below w.heap.size w w' := by
  refine (decode_any hv hl (by omega)).mono fun e w' he => ?_
  obtain ⟨h, hb⟩ := he
  unfold decR
  rcases h with ⟨h1, h2⟩ | ⟨h1, h2, h3⟩ | ⟨vs, h1, h2, h3, h4⟩
  · rw [if_neg h1]; exact ⟨none, 0, h2, World.ownsRow_nil _ _ _ _, hb⟩
  · rw [if_pos h1, h2]; exact ⟨none, 0, h3, World.ownsRow_nil _ _ _ _, hb⟩
  · rw [if_pos h1, h2]; exact ⟨_, _, h3, row_up h4 (Nat.le_refl _), hb⟩
theorem refU {w : World} {v : Value} {ks : List Int} {s : ByteArray} (hv : IntsAt w v ks) (hl : ks.length ≤ 9223372036854775807) (hs : s.size ≤ 4000000000) :
    Calls Try.prog 27 #[v, .string s] w fun e w' => ∃ ao ac, e = .returned (.tuple #[.slice ao (decR ks s.data.toList).1.length ac, .int .i64 (decR ks s.data.toList).2]) ∧ VRow w.heap.size w' (.slice ao (decR ks s.data.toList).1.length ac) (decR ks s.data.toList).1 ∧ Below w.heap.size w w' := by
  refine (refDecode_any hv hl hs).mono fun e w' he => ?_
  obtain ⟨h, hb⟩ := he
  unfold decR
  rcases h with ⟨h1, h2⟩ | ⟨h1, h2, h3⟩ | ⟨vs, oo, oc, h1, h2, h3, h4⟩
  · rw [if_neg h1]; exact ⟨none, 0, h2, World.ownsRow_nil _ _ _ _, hb⟩
  · rw [if_pos h1, h2]; exact ⟨none, 0, h3, World.ownsRow_nil _ _ _ _, hb⟩
  · rw [if_pos h1, h2]; exact ⟨_, _, h3, h4, hb⟩

/-- append of one value onto a row of values of the call's own: where it is laid anew, all that was stays. -/
theorem run_append_keep {P : Program} (w : World) (t ty : TypeId) (base : Nat) (e : TypeId) (i : TypeInfo) (z : Value) (size bytes : Nat) (ht : P.underlying t = some (.slice e)) (hi : P.info? e = some i) (hz : i.zero = some z)
    (hsize : i.size = size) (hby : i.bytes = bytes) (hzs : z.cells.size = size) (hsz : 0 < size)
    (v : Value) (n : Nat) (xs : List Value) (hown : w.ownsRow base e size v n xs)
    (ad : Addr) (m c : Nat) (news : List Value) (hl : news.length = m * size) (hnews : ∀ j u, news[j]? = some u → w.cell? (ad.add j) = some u) (h1 : ∀ u ∈ news, u.oneCell' = true)
    (hm : 0 < m) (h63 : n + m ≤ maxLen) (hbytes : (n + m) * bytes ≤ 140737488355328) (hbase : base ≤ w.heap.size) :
    ∃ g cap w', (Builtin.append_ #[t, t] ty #[v, .slice (some ad) m c]).run P w = .ok (.slice (some ⟨g, 0, none⟩) (n + m) cap) w' ∧
      w'.ownsRow base e size (.slice (some ⟨g, 0, none⟩) (n + m) cap) (n + m) (xs ++ news) ∧ w.grownBy w' v.ownBlock ∧ (v.ownBlock = some g ∨ (g = w.heap.size ∧ w.grownBy w' none)) ∧ g < w'.heap.size := by
  obtain ⟨g, cap, w', hr, h2, h3, h4, h5⟩ := run_append_lies (P := P) w t ty base e i z size bytes ht hi hz hsize hby hzs hsz v n xs hown ad m c news hl hnews h1 hm h63 hbytes hbase _ rfl
  refine ⟨g, cap, w', hr, h2, h3, ?_, h5⟩
  rcases h4 with h4 | h4
  · exact .inl h4
  · by_cases hv : v.ownBlock = some g
    · exact .inl hv
    · refine .inr ⟨h4, ?_⟩
      have hown' := hown
      obtain ⟨h0, ⟨hv0, _⟩ | ⟨g0, cap0, cur, hv0, q2, q3, q4, q5, q6, q7⟩⟩ := hown
      · rw [hv0] at h3; exact h3
      · by_cases hroom : n + m ≤ cap0
        · rw [hv0] at hown' hr
          obtain ⟨w'', hr', _⟩ := run_append_own_spare (P := P) w base t ty e i size ht hi hsize g0 n cap0 xs hown' ad m c news hl hnews h1 hroom
          rw [hr] at hr'
          injection hr' with e1 e2
          simp only [Value.slice.injEq, Option.some.injEq, Addr.mk.injEq] at e1
          rw [hv0] at hv
          exact absurd (by simp [Value.ownBlock, e1.1.1]) hv
        · rw [hv0] at hown' hr
          obtain ⟨v', w'', hr', _, r2⟩ := run_append_arg_grows (P := P) w t ty e i z size bytes ht hi hz hsize hby hzs hsz ⟨g0, 0, none⟩ n cap0 xs h0 (fun j u hj => by rw [Addr.add_lit, Nat.zero_add]; exact rowCells hown' hj) ad m c news hl hnews (by omega) h63 hbytes
          rw [hr] at hr'
          injection hr' with e1 e2
          rw [e2]; exact r2
theorem wpList_append_keep {P : Program} (w : World) {ops : Array Oper} {rest : List Oper} {o : Oper} {a : Act} {Q : Exit → Act → World → Prop} (hgd : o.guard = none) (s x : Operand) (t : TypeId)
    (ho : o.op = .call { callee := .builtin .append, args := #[s, x], argTypes := #[t, t] })
    (base : Nat) (e : TypeId) (i : TypeInfo) (z : Value) (size bytes : Nat) (ht : P.underlying t = some (.slice e)) (hi : P.info? e = some i) (hz : i.zero = some z)
    (hsize : i.size = size) (hby : i.bytes = bytes) (hzs : z.cells.size = size) (hsz : 0 < size)
    (v : Value) (n : Nat) (xs : List Value) (hs : a.eval s = v) (hown : w.ownsRow base e size v n xs)
    (ad : Addr) (m c : Nat) (news : List Value) (hx : a.eval x = .slice (some ad) m c) (hl : news.length = m * size) (hnews : ∀ j u, news[j]? = some u → w.cell? (ad.add j) = some u) (h1 : ∀ u ∈ news, u.oneCell' = true)
    (hm : 0 < m) (h63 : n + m ≤ maxLen) (hbytes : (n + m) * bytes ≤ 140737488355328) (hbase : base ≤ w.heap.size)
    (h : ∀ g cap w', w'.ownsRow base e size (.slice (some ⟨g, 0, none⟩) (n + m) cap) (n + m) (xs ++ news) → w.grownBy w' v.ownBlock → (v.ownBlock = some g ∨ (g = w.heap.size ∧ w.grownBy w' none)) → g < w'.heap.size → wpList P ops Q rest (a.put o.dst (.slice (some ⟨g, 0, none⟩) (n + m) cap)) w') : wpList P ops Q (o :: rest) a w :=
  wpList_plain hgd fun _ hK => by
    obtain ⟨g, cap, w', hr, h2, h3, h4, h5⟩ := run_append_keep (P := P) w t o.type base e i z size bytes ht hi hz hsize hby hzs hsz v n xs hown ad m c news hl hnews h1 hm h63 hbytes hbase
    unfold Oper.wp execOp
    simp only [ho, resolve, invoke, builtin, Sem.run_bind, Sem.run_pure, Result.andThen_ok, List.map_toArray, List.map_cons, List.map_nil, hs, hx, hr]
    exact hK _ _ (h g cap w' h2 h3 h4 h5)

/-- The value that its owner writes over a tuple. -/
def m7 : ValD := ⟨7, 7, []⟩
abbrev Ms (n : Nat) : List ValD := List.replicate n m7
/-- A list of so many of them, in memory. -/
def MsAt (w : World) (v : Value) (k : Nat) : Prop := ∃ ao g cap, v = .slice ao k cap ∧ k ≤ cap ∧ (0 < k → ao = some ⟨g, 0, none⟩) ∧ ∀ i, i < k → w.cell? ⟨g, i * 3, none⟩ = some (.int .u64 7) ∧ w.cell? ⟨g, i * 3 + 1, none⟩ = some (.int .i64 7) ∧ w.cell? ⟨g, i * 3 + 2, none⟩ = some (.string ⟨#[]⟩)
theorem MsAt.on {w w' : World} {v : Value} {k : Nat} (h : MsAt w v k) (hb : Below w.heap.size w w') : MsAt w' v k := by
  obtain ⟨ao, g, cap, e, hc, h1, h2⟩ := h
  exact ⟨ao, g, cap, e, hc, h1, fun i hi => ⟨cell_later hb (h2 i hi).1, cell_later hb (h2 i hi).2.1, cell_later hb (h2 i hi).2.2⟩⟩
theorem Ms_get (n i : Nat) (h : i < n) : (Ms n)[i]? = some m7 := by simp [Ms, List.getElem?_replicate, h]
theorem Ms_snoc (n : Nat) : flatV (Ms n) ++ cellsV m7 = flatV (Ms (n + 1)) := by
  rw [← flatV_snoc]; congr 1; simp [Ms, List.replicate_succ']
theorem Ms_flat (n i : Nat) (h : i < n) : (flatV (Ms n))[i * 3]? = some (.int .u64 7) ∧ (flatV (Ms n))[i * 3 + 1]? = some (.int .i64 7) ∧ (flatV (Ms n))[i * 3 + 2]? = some (.string ⟨#[]⟩) := flatV_get (Ms n) i m7 (Ms_get n i h)
theorem MsAt.of_row {B : Nat} {w : World} {ao : Option Addr} {n cap : Nat} (h : VRow B w (.slice ao n cap) (Ms n)) : MsAt w (.slice ao n cap) n := by
  have h' := h
  obtain ⟨h0, h1 | ⟨g, cap', cur, h1, h2, h3, h4, h5, h6, h7⟩⟩ := h
  · have := h1.1
    simp only [Value.slice.injEq] at this
    obtain ⟨rfl, rfl, rfl⟩ := this
    exact ⟨none, 0, 0, rfl, Nat.le_refl _, fun h => by omega, fun i hi => by omega⟩
  · simp only [Value.slice.injEq] at h1
    obtain ⟨rfl, hn, rfl⟩ := h1
    refine ⟨_, g, cap, rfl, by rw [hn]; exact h4, fun _ => rfl, fun i hi => ?_⟩
    obtain ⟨a, b, c⟩ := Ms_flat n i hi
    exact ⟨rowCells h' a, rowCells h' b, rowCells h' c⟩
/-- What is appended behind one of these lists leaves each that is no longer what it was, whether it shares memory or not. -/
theorem MsAt.grow {w w' : World} {B N k g cap nv : Nat} {v x : Value} (h : MsAt w x k) (hk : k ≤ N) (hrow : w'.ownsRow B 62 3 (.slice (some ⟨g, 0, none⟩) nv cap) nv (flatV (Ms N) ++ cellsV m7))
    (hg : w.grownBy w' v.ownBlock) (hat : v.ownBlock = some g ∨ (g = w.heap.size ∧ w.grownBy w' none)) : MsAt w' x k := by
  obtain ⟨ao, kb, cap, e, hc, h1, hh⟩ := h
  refine ⟨ao, kb, cap, e, hc, h1, fun i hi => ?_⟩
  obtain ⟨h2, h3, h4⟩ := hh i hi
  have hlt : kb < w.heap.size := cell_in h2
  have far : w'.heap[kb]? = w.heap[kb]? → w'.cell? ⟨kb, i * 3, none⟩ = some (.int .u64 7) ∧ w'.cell? ⟨kb, i * 3 + 1, none⟩ = some (.int .i64 7) ∧ w'.cell? ⟨kb, i * 3 + 2, none⟩ = some (.string ⟨#[]⟩) := fun hb => ⟨(World.cell?_of_block (a := ⟨kb, i * 3, none⟩) hb).trans h2, (World.cell?_of_block (a := ⟨kb, i * 3 + 1, none⟩) hb).trans h3, (World.cell?_of_block (a := ⟨kb, i * 3 + 2, none⟩) hb).trans h4⟩
  rcases hat with hat | hat
  · by_cases hkb : some kb = v.ownBlock
    · have hgk : kb = g := by rw [hat] at hkb; simpa using hkb
      subst hgk
      have hl : (flatV (Ms N)).length = N * 3 := by rw [flatV_len]; simp
      obtain ⟨a, b, c⟩ := Ms_flat N i (by omega)
      exact ⟨rowCells hrow (by rw [List.getElem?_append_left (by omega)]; exact a), rowCells hrow (by rw [List.getElem?_append_left (by omega)]; exact b), rowCells hrow (by rw [List.getElem?_append_left (by omega)]; exact c)⟩
    · exact far (hg.block kb hlt hkb)
  · exact far (hat.2.block kb hlt (by simp))
theorem VRow.more {B : Nat} {w : World} {N g cap : Nat} (h : w.ownsRow B 62 3 (.slice (some ⟨g, 0, none⟩) (N + 1) cap) (N + 1) (flatV (Ms N) ++ cellsV m7)) : VRow B w (.slice (some ⟨g, 0, none⟩) (N + 1) cap) (Ms (N + 1)) := by
  unfold VRow
  rw [← Ms_snoc]
  have : (Ms (N + 1)).length = N + 1 := by simp
  rw [this]; exact h

theorem flatV_set : ∀ (L : List ValD) (i : Nat) (u : ValD), (((flatV L).set (i * 3) (.int .u64 u.u)).set (i * 3 + 1) (.int .i64 u.i)).set (i * 3 + 2) (.string ⟨u.s.toArray⟩) = flatV (L.set i u)
  | [], i, u => by simp [flatV]
  | v :: L, 0, u => by simp [flatV, cellsV]
  | v :: L, i + 1, u => by
    have := flatV_set L i u
    have e1 : (i + 1) * 3 = i * 3 + 1 + 1 + 1 := by omega
    rw [e1]
    simpa [flatV, cellsV] using this
/-- A value is laid over one of a row. -/
theorem VRow.lay {B : Nat} {w : World} {g n cap i : Nat} {L : List ValD} (h : VRow B w (.slice (some ⟨g, 0, none⟩) n cap) L) (u : ValD) : VRow B (((w.setCell ⟨g, i * 3, none⟩ (.int .u64 u.u)).setCell ⟨g, i * 3 + 1, none⟩ (.int .i64 u.i)).setCell ⟨g, i * 3 + 2, none⟩ (.string ⟨u.s.toArray⟩)) (.slice (some ⟨g, 0, none⟩) n cap) (L.set i u) := by
  have hn := h.lens.1
  subst hn
  have h1 := (World.ownsRow.stored h (i * 3) (.int .u64 u.u)).1
  have h2 := (World.ownsRow.stored h1 (i * 3 + 1) (.int .i64 u.i)).1
  have h3 := (World.ownsRow.stored h2 (i * 3 + 2) (.string ⟨u.s.toArray⟩)).1
  rw [flatV_set] at h3
  unfold VRow
  rw [List.length_set]
  exact h3
theorem VRow.cells {B : Nat} {w : World} {g n cap i : Nat} {L : List ValD} (h : VRow B w (.slice (some ⟨g, 0, none⟩) n cap) L) (hi : i < L.length) : (∃ a, w.cell? ⟨g, i * 3, none⟩ = some a) ∧ (∃ a, w.cell? ⟨g, i * 3 + 1, none⟩ = some a) ∧ (∃ a, w.cell? ⟨g, i * 3 + 2, none⟩ = some a) ∧ ∀ o, w.frozen? ⟨g, o, none⟩ = false := by
  have hn := h.lens.1
  subst hn
  obtain ⟨a, b, c⟩ := flatV_get L i L[i] (List.getElem?_eq_getElem hi)
  exact ⟨⟨_, rowCells h a⟩, ⟨_, rowCells h b⟩, ⟨_, rowCells h c⟩, fun o => World.ownsRow.frozenAt h o⟩
theorem VRow.block {B : Nat} {w : World} {ao : Option Addr} {n cap : Nat} {L : List ValD} (h : VRow B w (.slice ao n cap) L) (hn : 0 < n) : ∃ g, ao = some ⟨g, 0, none⟩ ∧ B ≤ g ∧ g < w.heap.size := by
  obtain ⟨h0, h1 | ⟨g, cap', cur, h1, h2, h3, h4⟩⟩ := h
  · have := h1.1
    simp only [Value.slice.injEq] at this
    omega
  · simp only [Value.slice.injEq] at h1
    exact ⟨g, h1.1, h2, (Array.getElem?_eq_some_iff.mp h3).1⟩
theorem MsAt.cell {w : World} {g n cap k : Nat} (h : MsAt w (.slice (some ⟨g, 0, none⟩) n cap) n) (hk : k < n) : w.cell? ⟨g, k * 3, none⟩ = some (.int .u64 7) ∧ w.cell? ⟨g, k * 3 + 1, none⟩ = some (.int .i64 7) ∧ w.cell? ⟨g, k * 3 + 2, none⟩ = some (.string ⟨#[]⟩) := by
  obtain ⟨ao, g', cap', e, _, h1, h2⟩ := h
  simp only [Value.slice.injEq] at e
  have h3 := h1 (by omega)
  rw [← e.1] at h3
  cases h3
  exact h2 k hk
theorem MsAt.at {w : World} {ao : Option Addr} {n cap : Nat} (h : MsAt w (.slice ao n cap) n) (hn : 0 < n) : ∃ g, ao = some ⟨g, 0, none⟩ := by
  obtain ⟨ao', g', cap', e, _, h1, h2⟩ := h
  simp only [Value.slice.injEq] at e
  exact ⟨g', by rw [e.1]; exact h1 hn⟩
/-- A list of the owner's values that is appended to, beside the value itself. -/
structure App (w6 : World) (B mb N : Nat) (v : Value) (wq : World) : Prop where
  below : Below B w6 wq
  base : B ≤ w6.heap.size
  mblk : wq.heap[mb]? = some (vB m7)
  row : VRow B wq v (Ms N)
  nm : v.ownBlock ≠ some mb
theorem App.step {w6 wq w' : World} {B mb N g cap : Nat} {v : Value} (h : App w6 B mb N v wq) (hown : w'.ownsRow B 62 3 (.slice (some ⟨g, 0, none⟩) (N + 1) cap) (N + 1) (flatV (Ms N) ++ cellsV m7)) (hgrow : (wq.alloc (vB m7)).grownBy w' v.ownBlock) (hat : v.ownBlock = some g ∨ (g = (wq.alloc (vB m7)).heap.size ∧ (wq.alloc (vB m7)).grownBy w' none)) : App w6 B mb (N + 1) (.slice (some ⟨g, 0, none⟩) (N + 1) cap) w' := by
  have hmb : mb < wq.heap.size := (Array.getElem?_eq_some_iff.mp h.mblk).1
  have hs := h.below.size
  refine ⟨below_grew (h.below.alloc (Nat.le_trans h.base hs) _) hgrow (fun g' e => row_from h.row e) (by have := h.base; simp; omega), h.base, ?_, VRow.more hown, ?_⟩
  · rw [hgrow.block mb (by simp; omega) (fun e => h.nm e.symm), (belowA wq (vB m7)).block mb hmb]; exact h.mblk
  · intro e
    simp [Value.ownBlock] at e
    subst e
    rcases hat with hat | hat
    · exact h.nm hat
    · have := hat.1; simp at this; omega

end Go.Proofs.Ytcgjppacnhmjlaa
