/- A region that draws its order, whose first operations only read: they may be taken in the order of the text. -/
import Derived.Test.YtcgjppacnhmjlaaGreatProg
import Derived.OrdersIn
import Derived.KernelRfl
set_option linter.unusedVariables false
set_option linter.unusedSimpArgs false
namespace Go.Proofs.YtcgjppacnhmjlaaGreat

/-- Does operation k wait for operation j itself? -/
def depB (ops : Array Oper) (k j : Nat) : Bool := match ops[k]? with
  | some o => o.after.toList.any fun e => Region.binds .any e && e.on == j
  | none => false
def dstOf (ops : Array Oper) (j : Nat) : Option Tmp := (ops[j]?).bind (·.dst)
/-- What is asked of a region, so that its first c operations may be taken as they stand. -/
def silentB (ops : Array Oper) (c : Nat) : Bool :=
  decide (c < ops.size) &&
  ((List.range ops.size).all fun i => match ops[i]? with
    | some o => o.after.toList.all fun e => !Region.binds .any e || decide (e.on < i)
    | none => true) &&
  ((List.range c).all fun i => (List.range c).all fun j => match ops[i]?, dstOf ops j with
    | some o, some d => !(o.looksAt ops).contains d || depB ops i j
    | _, _ => true) &&
  ((List.range c).all fun j => (List.range (c + 1)).any fun k => decide (j < k) && depB ops k j) &&
  ((List.range ops.size).all fun i => decide (i ≤ c) || (List.range ops.size).any fun k => decide (c ≤ k) && depB ops i k) &&
  ((List.range c).all fun i => (List.range c).all fun j => i == j || dstOf ops i != dstOf ops j || dstOf ops i == none) &&
  ((List.range ops.size).all fun i => match ops[i]? with
    | some o => (match o.op with | .select _ _ => false | _ => true)
    | none => true)

theorem depB_iff {ops : Array Oper} {k j : Nat} : depB ops k j = true ↔ ∃ o, ops[k]? = some o ∧ ∃ e ∈ o.after, Region.binds .any e = true ∧ e.on = j := by
  unfold depB
  cases h : ops[k]? with
  | none => simp
  | some o =>
    simp only [List.any_eq_true, Bool.and_eq_true, beq_iff_eq]
    constructor
    · rintro ⟨e, he, hb, hj⟩; exact ⟨o, rfl, e, by simpa using he, hb, hj⟩
    · rintro ⟨o', ho, e, he, hb, hj⟩; cases ho; exact ⟨e, by simpa using he, hb, hj⟩

structure Silent (ops : Array Oper) (c : Nat) : Prop where
  lt : c < ops.size
  down : ∀ i j, depB ops i j = true → j < i
  looks : ∀ (i j : Nat) (o : Oper) (d : Tmp), i < c → j < c → ops[i]? = some o → dstOf ops j = some d → d ∈ o.looksAt ops → depB ops i j = true
  next : ∀ j, j < c → ∃ k, j < k ∧ k ≤ c ∧ depB ops k j = true
  late : ∀ i, c < i → i < ops.size → ∃ k, c ≤ k ∧ depB ops i k = true
  dsts : ∀ (i j : Nat) (d : Tmp), i < c → j < c → i ≠ j → dstOf ops i = some d → dstOf ops j ≠ some d
  nosel : ∀ (i : Nat) (o : Oper) cs b, ops[i]? = some o → o.op ≠ .select cs b
theorem silent_of {ops : Array Oper} {c : Nat} (h : silentB ops c = true) : Silent ops c := by
  unfold silentB at h
  simp only [Bool.and_eq_true] at h
  obtain ⟨⟨⟨⟨⟨⟨h1, h2⟩, h3⟩, h4⟩, h5⟩, h6⟩, h7⟩ := h
  refine ⟨of_decide_eq_true h1, fun i j hd => ?_, fun i j o d hi hj ho hd hl => ?_, fun j hj => ?_, fun i hi hs => ?_, fun i j d hi hj hne hd => ?_, fun i o cs b ho => ?_⟩
  · obtain ⟨o, ho, e, he, hb, rfl⟩ := depB_iff.mp hd
    have hlt := (Array.getElem?_eq_some_iff.mp ho).1
    have := List.all_eq_true.mp h2 i (List.mem_range.mpr hlt)
    rw [ho] at this
    simp only [List.all_eq_true] at this
    have := this e (by simpa using he)
    rw [hb] at this
    simpa using this
  · have := List.all_eq_true.mp (List.all_eq_true.mp h3 i (List.mem_range.mpr hi)) j (List.mem_range.mpr hj)
    rw [ho, hd] at this
    simp only [Bool.or_eq_true, Bool.not_eq_true', List.contains_eq_mem, decide_eq_false_iff_not] at this
    rcases this with h | h
    · exact absurd hl h
    · exact h
  · obtain ⟨k, hk, hb⟩ := List.any_eq_true.mp (List.all_eq_true.mp h4 j (List.mem_range.mpr hj))
    simp only [Bool.and_eq_true, decide_eq_true_eq] at hb
    exact ⟨k, hb.1, by have := List.mem_range.mp hk; omega, hb.2⟩
  · have := List.all_eq_true.mp h5 i (List.mem_range.mpr hs)
    simp only [Bool.or_eq_true, decide_eq_true_eq] at this
    rcases this with h | h
    · omega
    · obtain ⟨k, hk, hb⟩ := List.any_eq_true.mp h
      simp only [Bool.and_eq_true, decide_eq_true_eq] at hb
      exact ⟨k, hb.1, hb.2⟩
  · have := List.all_eq_true.mp (List.all_eq_true.mp h6 i (List.mem_range.mpr hi)) j (List.mem_range.mpr hj)
    rw [hd] at this
    intro e
    rw [e] at this
    simp [hne] at this
  · have hlt := (Array.getElem?_eq_some_iff.mp ho).1
    have := List.all_eq_true.mp h7 i (List.mem_range.mpr hlt)
    rw [ho] at this
    intro e
    simp only [e] at this
    cases this

def putAll (ops : Array Oper) (V : Nat → Value) (l : List Nat) (a : Act) : Act := l.foldl (fun a j => a.put (dstOf ops j) (V j)) a
/-- The ones that have not come up. -/
def unl (c : Nat) (listed : Array Bool) : List Nat := (List.range c).filter fun j => !listed.getD j true
theorem mem_unl {c : Nat} {listed : Array Bool} {j : Nat} : j ∈ unl c listed ↔ j < c ∧ listed.getD j true = false := by simp [unl, List.mem_filter]
theorem putAll_first {ops : Array Oper} {V : Nat → Value} {i : Nat} : ∀ (l : List Nat) (a : Act), i ∈ l → l.Nodup → (∀ j ∈ l, j ≠ i → ∀ d, dstOf ops i = some d → dstOf ops j ≠ some d) → putAll ops V l a = putAll ops V (l.erase i) (a.put (dstOf ops i) (V i))
  | [], a, h, _, _ => by cases h
  | j :: l, a, h, hn, hd => by
    by_cases e : j = i
    · subst e; simp [putAll]
    · have hm : i ∈ l := by
        rcases List.mem_cons.mp h with h | h
        · exact absurd h.symm e
        · exact h
      rw [List.erase_cons_tail (by simpa using e)]
      show putAll ops V l (a.put (dstOf ops j) (V j)) = putAll ops V (l.erase i) ((a.put (dstOf ops i) (V i)).put (dstOf ops j) (V j))
      rw [putAll_first l _ hm (List.nodup_cons.mp hn).2 (fun k hk => hd k (List.mem_cons_of_mem _ hk)), Act.put_comm _ (V i) (V j) (hd j (List.mem_cons_self) e)]
theorem putAll_exec {ops : Array Oper} {V : Nat → Value} {o : Oper} (hs : ∀ cs b, o.op ≠ .select cs b) : ∀ (l : List Nat) (a : Act), (∀ j ∈ l, ∀ d, dstOf ops j = some d → d ∉ o.looksAt ops) → execOp (putAll ops V l a).eval o = execOp a.eval o
  | [], a, _ => rfl
  | j :: l, a, h => by
    show execOp (putAll ops V l (a.put (dstOf ops j) (V j))).eval o = _
    rw [putAll_exec hs l _ (fun k hk => h k (List.mem_cons_of_mem _ hk)), execOp_put o hs a _ _ (h j (List.mem_cons_self))]
theorem putAll_wanted {ops : Array Oper} {V : Nat → Value} {o : Oper} : ∀ (l : List Nat) (a : Act), (∀ j ∈ l, ∀ d, dstOf ops j = some d → d ∉ o.looksAt ops) → Region.wanted o (yielded ops (putAll ops V l a).tmps) = Region.wanted o (yielded ops a.tmps)
  | [], a, _ => rfl
  | j :: l, a, h => by
    show Region.wanted o (yielded ops (putAll ops V l (a.put (dstOf ops j) (V j))).tmps) = _
    rw [putAll_wanted l _ (fun k hk => h k (List.mem_cons_of_mem _ hk)), wanted_put o a _ _ (h j (List.mem_cons_self))]
theorem putAll_about {P : Program} {ops : Array Oper} {V : Nat → Value} {o : Oper} {w : World} : ∀ (l : List Nat) (a : Act), (∀ j ∈ l, ∀ d, dstOf ops j = some d → d ∉ o.looksAt ops) → o.about P w (putAll ops V l a).eval = o.about P w a.eval
  | [], a, _ => rfl
  | j :: l, a, h => by
    show o.about P w (putAll ops V l (a.put (dstOf ops j) (V j))).eval = _
    rw [putAll_about l _ (fun k hk => h k (List.mem_cons_of_mem _ hk)), about_put o w a _ _ (h j (List.mem_cons_self))]

section
variable {F : Fence} {n : Nat} {P : Program} {ops : Array Oper} {Q : Exit → Act → World → Prop} {c : Nat} {V : Nat → Value} {w : World}
/-- The first c have come up, and no other. -/
def upTo' (ops : Array Oper) (c : Nat) : Array Bool := ((List.range ops.size).map fun i => decide (i < c)).toArray
/-- An operation that lays a value and leaves the world, in whatever state that holds what it looks at. -/
def Quietly (F : Fence) (n : Nat) (P : Program) (ops : Array Oper) (Q : Exit → Act → World → Prop) (w : World) (aAll : Act) (o : Oper) (v : Value) : Prop :=
  Region.wanted o (yielded ops aAll.tmps) = true ∧ ∀ (a : Act) (K : Act → World → Prop), execOp a.eval o = execOp aAll.eval o → o.about P w a.eval = o.about P w aAll.eval → K (a.put o.dst v) w → o.wpIn F n P a w K Q
theorem quietly_value {aAll : Act} {o : Oper} {v : Value} (hro : F.round = none) (h : Region.wanted o (yielded ops aAll.tmps) = true ∧ (execOp aAll.eval o).run P w = .ok (.value v) w ∧ o.about P w aAll.eval = none) : Quietly F n P ops Q w aAll o v :=
  ⟨h.1, fun a K he ha hK => by
    simp only [Oper.wpIn, hro, Oper.semAt_none, he, h.2.1, Oper.uponIn, ha, h.2.2]
    exact ⟨fun f hf => (by cases hf), hK⟩⟩
/-- .. within a round. -/
theorem quietly_round {l : Nat} {aAll : Act} {o : Oper} {v : Value} (hro : F.round = some l) (hnd : ∀ c, o.op ≠ .defer c) (h : Region.wanted o (yielded ops aAll.tmps) = true ∧ (execOp aAll.eval o).run P w = .ok (.value v) w ∧ o.about P w aAll.eval = none) : Quietly F n P ops Q w aAll o v :=
  ⟨h.1, fun a K he ha hK => by
    simp only [Oper.wpIn, hro, Oper.semAt_eq (some l) _ o hnd, he, h.2.1, Oper.uponIn, ha, h.2.2]
    exact ⟨fun f hf => (by cases hf), hK⟩⟩
theorem quietly_call {aAll : Act} {o : Oper} {v : Value} {f : FuncId} {args : Array Value} (hro : F.round = none) (hd : F.depth.isSome = true → 1 ≤ n) (hw : Region.wanted o (yielded ops aAll.tmps) = true) (hr : (execOp aAll.eval o).run P w = .ok (.enter f args) w) (ha : ∀ g, o.about P w aAll.eval = some g → F.fn g)
    (hc : CallsIn F (n - 1) P f args w fun e w' => e = .returned v ∧ w' = w) : Quietly F n P ops Q w aAll o v :=
  ⟨hw, fun a K he ha2 hK => by
    simp only [Oper.wpIn, hro, Oper.semAt_none, he, hr, Oper.uponIn, ha2]
    refine ⟨ha, hd, hc.mono ?_⟩
    rintro e w' ⟨rfl, rfl⟩
    exact hK⟩
theorem silent_walkR (hS : Silent ops c) (aAll : Act) (m : Nat)
    (hop : ∀ i, i < c → ∀ o, ops[i]? = some o → Quietly F n P ops Q w aAll o (V i))
    (hrest : wpAnyIn F n P .any ops Q m (upTo' ops c) aAll w) :
    ∀ (k : Nat) (listed : Array Bool) (a : Act), listed.size = ops.size → (unl c listed).length = k → putAll ops V (unl c listed) a = aAll → (∀ i, c ≤ i → i < ops.size → listed.getD i true = false) →
      (∀ i j, listed.getD i false = true → depB ops i j = true → listed.getD j false = true) → wpAnyIn F n P .any ops Q (m + k) listed a w := by
  intro k
  induction k with
  | zero =>
    intro listed a hsz hk ha hno hcl
    have hun : unl c listed = [] := List.length_eq_zero_iff.mp hk
    rw [hun] at ha
    have hl : listed = upTo' ops c := by
      apply Array.ext
      · simp [upTo', hsz]
      · intro i h1 h2
        simp only [upTo', List.getElem_toArray, List.getElem_map, List.getElem_range]
        by_cases hi : i < c
        · have : i ∉ unl c listed := by rw [hun]; simp
          rw [mem_unl] at this
          simp [hi, h1] at this ⊢
          exact this
        · have := hno i (by omega) (by omega)
          simp [hi, h1] at this ⊢
          exact this
    rw [← hl] at hrest
    have : a = aAll := ha
    rw [this]
    exact hrest
  | succ k ih =>
    intro listed a hsz hk ha hno hcl
    -- something has not come up; the first such one may
    obtain ⟨j0, hj0⟩ : ∃ j, j ∈ unl c listed := List.exists_mem_of_ne_nil _ (fun e => by rw [e] at hk; cases hk)
    have hsome : ∀ j, j < c → listed.getD j true = false → ∃ i, i ∈ Region.ready .any ops listed := by
      intro j
      induction j using Nat.strongRecOn with
      | _ j ihj =>
        intro hj hf
        by_cases hr : j ∈ Region.ready .any ops listed
        · exact ⟨j, hr⟩
        · obtain ⟨o, ho⟩ : ∃ o, ops[j]? = some o := ⟨_, Array.getElem?_eq_getElem (by have := hS.lt; omega)⟩
          have : ∃ e ∈ o.after, Region.binds .any e = true ∧ listed.getD e.on false ≠ true := by
            apply Classical.byContradiction
            intro hcon
            apply hr
            refine mem_ready.mpr ⟨hf, o, ho, fun e he hb => ?_⟩
            apply Classical.byContradiction
            intro h2
            exact hcon ⟨e, he, hb, h2⟩
          obtain ⟨e, he, hb, hf2⟩ := this
          have hlt := hS.down j e.on (depB_iff.mpr ⟨o, ho, e, he, hb, rfl⟩)
          refine ihj e.on hlt (by omega) ?_
          have hin : e.on < listed.size := by rw [hsz]; have := hS.lt; omega
          simp [hin] at hf2 ⊢
          exact hf2
    refine ⟨fun h => ?_, fun i hi => ?_⟩
    · obtain ⟨j, hj⟩ := hsome j0 (mem_unl.mp hj0).1 (mem_unl.mp hj0).2
      rw [h] at hj; cases hj
    · obtain ⟨hf, o, ho, hall⟩ := mem_ready.mp hi
      have hil : i < ops.size := (Array.getElem?_eq_some_iff.mp ho).1
      have hdep : ∀ j, depB ops i j = true → listed.getD j false = true := fun j hj => by
        obtain ⟨o', ho', e, he, hb, rfl⟩ := depB_iff.mp hj
        rw [ho] at ho'; cases ho'
        exact hall e he hb
      have hic : i < c := by
        apply Classical.byContradiction
        intro hge
        rcases Nat.lt_or_eq_of_le (Nat.ge_of_not_lt hge) with hlt | heq
        · obtain ⟨k', hk', hd⟩ := hS.late i hlt hil
          have h1 := hdep k' hd
          have h2 := hno k' hk' (Nat.lt_trans (hS.down i k' hd) hil)
          have hin : k' < listed.size := by rw [hsz]; exact Nat.lt_trans (hS.down i k' hd) hil
          simp [hin] at h1 h2
          rw [h1] at h2; cases h2
        · subst heq
          -- all of the first c have come up
          have hallc : ∀ t j, j < c → c - j ≤ t → listed.getD j false = true := by
            intro t
            induction t with
            | zero => intro j hj ht; omega
            | succ t iht =>
              intro j hj ht
              obtain ⟨k', h1, h2, h3⟩ := hS.next j hj
              rcases Nat.lt_or_eq_of_le h2 with h4 | h4
              · exact hcl k' j (iht k' h4 (by omega)) h3
              · subst h4; exact hdep j h3
          have h1 := hallc c j0 (mem_unl.mp hj0).1 (by omega)
          have h2 := (mem_unl.mp hj0).2
          have hin : j0 < listed.size := by rw [hsz]; have := (mem_unl.mp hj0).1; have := hS.lt; omega
          simp [hin] at h1 h2
          rw [h1] at h2; cases h2
      have hiu : i ∈ unl c listed := mem_unl.mpr ⟨hic, hf⟩
      have hapart : ∀ j ∈ unl c listed, ∀ d, dstOf ops j = some d → d ∉ o.looksAt ops := fun j hj d hd hl => by
        have h1 := hdep j (hS.looks i j o d hic (mem_unl.mp hj).1 ho hd hl)
        have h2 := (mem_unl.mp hj).2
        have hin : j < listed.size := by rw [hsz]; have := (mem_unl.mp hj).1; have := hS.lt; omega
        simp [hin] at h1 h2
        rw [h1] at h2; cases h2
      obtain ⟨p1, p2⟩ := hop i hic o ho
      have q1 : Region.wanted o (yielded ops a.tmps) = true := by rw [← p1, ← ha, putAll_wanted _ _ hapart]
      have q2 : execOp a.eval o = execOp aAll.eval o := by rw [← ha, putAll_exec (fun cs b => hS.nosel i o cs b ho) _ _ hapart]
      have q3 : o.about P w a.eval = o.about P w aAll.eval := by rw [← ha, putAll_about _ _ hapart]
      have hdst : o.dst = dstOf ops i := by simp [dstOf, ho]
      unfold wpOpIn
      simp only [ho, q1, if_true]
      refine p2 a _ q2 q3 ?_
      rw [hdst]
      have hnd : (unl c listed).Nodup := List.Nodup.sublist List.filter_sublist List.nodup_range
      have hun' : unl c (listed.setIfInBounds i true) = (unl c listed).erase i := by
        rw [hnd.erase_eq_filter]
        unfold unl
        rw [List.filter_filter]
        apply List.filter_congr
        intro j hj
        by_cases e : j = i
        · subst e
          have hin : j < listed.size := by rw [hsz]; exact hil
          simp [hin]
        · have e' : ¬ i = j := fun h => e h.symm
          simp [Array.getD_eq_getD_getElem?, Array.getElem?_setIfInBounds, e', bne, e]
      refine ih _ _ (by simp [hsz]) ?_ ?_ ?_ ?_
      · rw [hun', List.length_erase_of_mem hiu, hk]; rfl
      · rw [hun', ← ha, putAll_first _ a hiu hnd (fun j hj hne d hd => hS.dsts i j d hic (mem_unl.mp hj).1 (fun e => hne e.symm) hd)]
      · intro j hj hjs
        have := hno j hj hjs
        have e' : ¬ i = j := by omega
        simpa [Array.getD_eq_getD_getElem?, Array.getElem?_setIfInBounds, e'] using this
      · intro j t hj hd
        have key : ∀ x, listed.getD x false = true → (listed.setIfInBounds i true).getD x false = true := fun x hx => by
          by_cases e : i = x
          · subst e
            have hin : i < listed.size := by rw [hsz]; exact hil
            simp [hin]
          · simpa [Array.getD_eq_getD_getElem?, Array.getElem?_setIfInBounds, e] using hx
        by_cases e : i = j
        · subst e; exact key t (hdep t hd)
        · apply key
          refine hcl j t ?_ hd
          simpa [Array.getD_eq_getD_getElem?, Array.getElem?_setIfInBounds, e] using hj
theorem silent_walkG (hS : Silent ops c) (hro : F.round = none) (aAll : Act) (m : Nat)
    (hop : ∀ i, i < c → ∀ o, ops[i]? = some o → Quietly F n P ops Q w aAll o (V i))
    (hrest : wpAnyIn F n P .any ops Q m (upTo' ops c) aAll w) :
    ∀ (k : Nat) (listed : Array Bool) (a : Act), listed.size = ops.size → (unl c listed).length = k → putAll ops V (unl c listed) a = aAll → (∀ i, c ≤ i → i < ops.size → listed.getD i true = false) →
      (∀ i j, listed.getD i false = true → depB ops i j = true → listed.getD j false = true) → wpAnyIn F n P .any ops Q (m + k) listed a w := silent_walkR hS aAll m hop hrest
theorem silent_walk (hS : Silent ops c) (hro : F.round = none) (aAll : Act) (m : Nat)
    (hop : ∀ i, i < c → ∀ o, ops[i]? = some o → Region.wanted o (yielded ops aAll.tmps) = true ∧ (execOp aAll.eval o).run P w = .ok (.value (V i)) w ∧ o.about P w aAll.eval = none)
    (hrest : wpAnyIn F n P .any ops Q m (upTo' ops c) aAll w) (k : Nat) (listed : Array Bool) (a : Act) (h1 : listed.size = ops.size) (h2 : (unl c listed).length = k) (h3 : putAll ops V (unl c listed) a = aAll) (h4 : ∀ i, c ≤ i → i < ops.size → listed.getD i true = false)
    (h5 : ∀ i j, listed.getD i false = true → depB ops i j = true → listed.getD j false = true) : wpAnyIn F n P .any ops Q (m + k) listed a w :=
  silent_walkG hS hro aAll m (fun i hi o ho => quietly_value hro (hop i hi o ho)) hrest k listed a h1 h2 h3 h4 h5
end

end Go.Proofs.YtcgjppacnhmjlaaGreat
