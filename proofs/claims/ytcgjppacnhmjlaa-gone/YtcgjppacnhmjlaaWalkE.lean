/- Going through: what Scan gives. -/
import Derived.Test.YtcgjppacnhmjlaaWalkD
set_option linter.unusedVariables false
set_option linter.unusedSimpArgs false
namespace Go.Proofs.Ytcgjppacnhmjlaa
open Go.RowKit Go.Shelf
attribute [local go_sem] Oper.semAt_some

section
variable {α : Type} {S : Nat → Prop} {J Jx : List α → World → Prop} {val : α → KV} {fr to : ByteArray} {lb N n n₀ : Nat}
set_option maxRecDepth 100000 in
set_option maxHeartbeats 2000000 in
/-- The function that Scan gives, called with a loop's own yield. -/
theorem scanFn_any (hG : Goes S n₀ J) (hY : YieldOk S J Jx val lb N) (hf : fr.size ≤ 9223372036854775807) {W : World} {bx bf bt xb : Nat} {tp : Option Addr} {l : List KV} {ys : List α} (cx : W.cell? ⟨bx, 0, none⟩ = some (.pointer (some ⟨xb, 0, none⟩))) (cf : W.cell? ⟨bf, 0, none⟩ = some (.string fr)) (ct : W.cell? ⟨bt, 0, none⟩ = some (.string to))
    (ci : W.cell? ⟨xb, 0, none⟩ = some (.pointer tp)) (hT : TreeN S n W tp l) (hJ : J [] W) (hN : ys.length ≤ N) (hy : ys.map val = rng fr.data.toList to.data.toList l) :
    Calls Try.prog 39 #[.func (.yield lb) #[] #[], .pointer (some ⟨bx, 0, none⟩), .pointer (some ⟨bf, 0, none⟩), .pointer (some ⟨bt, 0, none⟩)] W fun e W' => (∃ v, e = .returned v) ∧ (J ys W' ∨ ∃ q, q <+: ys ∧ Jx q W') := by
  have hd : Below W.heap.size W W.drew := (Below.refl _ _).drew
  have HL : Hid (Calls Try.prog 32 #[.pointer (some ⟨xb, 0, none⟩)] W.drew fun e w' => e = .returned (.pointer tp) ∧ w' = W.drew) := load_any (cell_later hd ci) (hT.on hd).ptr
  have HW : Hid (Calls Try.prog 40 #[.pointer tp, .string fr, .string to, .func (.yield lb) #[] #[]] W.drew fun e W' => ∃ b, e = .returned (.bool b) ∧ (J ys W' ∨ ∃ q, q <+: ys ∧ Jx q W')) := by
    refine (walk_tree hG hY hf (hT.on hd) (hG.later _ _ _ hJ hd) (by simpa using hN) hy).mono ?_
    rintro e W' (⟨b, rfl, h1, _⟩ | ⟨rfl, q, h1, h2⟩)
    · exact ⟨b, rfl, .inl (by simpa using h1)⟩
    · exact ⟨false, rfl, .inr ⟨q, h1, by simpa using h2⟩⟩
  clear hG hY hT hJ hN hy hd ci
  refine (callsIn_wide (n := 3)).1 ?_
  refine callsIn_of_wp Try.func39 rfl trivial ?_ rfl
  simp only [Try.ntmps39, List.size_toArray, List.length_cons, List.length_nil, Nat.reduceAdd, Nat.reduceSub, Array.replicate_succ, Array.replicate_zero, List.push_toArray, List.append_toArray, List.nil_append, List.cons_append]
  gi_wp2
  refine wpIn_region_any (by kernel_rfl) ?_
  change wpAnyIn _ _ _ _ _ _ 8 _ _ (World.drew _)
  generalize hops : (#[_, _, _, _, _, _, _, _] : Array Oper) = ops
  have hsil : Silent ops 7 := by rw [← hops]; exact silent_of (by kernel_rfl)
  have hosz : ops.size = 8 := by rw [← hops]; rfl
  obtain ⟨V, hV⟩ : ∃ V : Nat → Value, V = fun i => ([.pointer (some ⟨xb, 0, none⟩), .pointer (some ⟨xb, 0, none⟩), .pointer (some ⟨xb, 0, none⟩), .pointer tp, .string fr, .string to, .func (.yield lb) #[] #[]] : List Value).getD i undef := ⟨_, rfl⟩
  have hdst : ∀ j, j < 7 → dstOf ops j = some (5 + j) := by
    intro j hj
    have : j = 0 ∨ j = 1 ∨ j = 2 ∨ j = 3 ∨ j = 4 ∨ j = 5 ∨ j = 6 := by omega
    rw [← hops]
    rcases this with rfl | rfl | rfl | rfl | rfl | rfl | rfl <;> rfl
  have hun : unl 7 (Array.replicate 8 false) = [0, 1, 2, 3, 4, 5, 6] := by kernel_rfl
  rw [hosz]
  generalize hact : ({ tmps := _, defers := _ } : Act) = a0
  obtain ⟨aAll, haAll⟩ : ∃ aAll, putAll ops V [0, 1, 2, 3, 4, 5, 6] a0 = aAll := ⟨_, rfl⟩
  have haA := haAll
  rw [← hact] at haA
  simp only [putAll, List.foldl, hdst 0 (by decide), hdst 1 (by decide), hdst 2 (by decide), hdst 3 (by decide), hdst 4 (by decide), hdst 5 (by decide), hdst 6 (by decide), Act.put, hV] at haA
  simp at haA
  refine silent_walkG (V := V) hsil rfl aAll 1 ?hop ?hrest 7 _ _ (by simp [hosz]) (by rw [hun]; rfl) (by rw [hun]; exact haAll) ?hno ?hcl
  case hno => intro i h1 h2; rw [hosz] at h2; simp [h2]
  case hcl =>
    intro i j h1
    exfalso
    rw [Array.getD_eq_getD_getElem?, Array.getElem?_replicate] at h1
    split at h1 <;> simp at h1
  case hop =>
    rw [← haA]
    intro i hi o ho
    have : i = 0 ∨ i = 1 ∨ i = 2 ∨ i = 3 ∨ i = 4 ∨ i = 5 ∨ i = 6 := by omega
    rw [← hops] at ho
    rcases this with rfl | rfl | rfl | rfl | rfl | rfl | rfl
    all_goals (cases ho; rw [← hops])
    case inr.inr.inr.inl =>
      refine quietly_call (f := 32) (args := #[.pointer (some ⟨xb, 0, none⟩)]) rfl (fun h => by cases h) (by rfl) ?_ (fun g _ => trivial) ?_
      · have he := enters_of (P := Try.prog) Try.func32 (by kernel_rfl) rfl
        simp [go_sem, he]
      · rw [hV]; exact callsIn_wide.2 HL.out
    all_goals (refine quietly_value rfl ⟨by rfl, ?_, ?_⟩)
    all_goals (first | rfl | (simp [hV, go_sem, cx, cf, ct]; done) | skip)
  case hrest =>
    have hup : upTo' ops 7 = #[true, true, true, true, true, true, true, false] := by rw [← hops]; kernel_rfl
    rw [hup]
    clear haAll hact hup hun hdst hsil hosz hV
    subst haA
    subst hops
    refine wpAnyIn_all (rs := [7]) (by kernel_rfl) (by simp) ?_
    intro i hi
    obtain rfl := List.mem_singleton.1 hi
    refine wpOpIn_step rfl ?_
    intro K hK
    go_simp
    refine ⟨trivial, (callsIn_wide.2 HW.out).mono ?_⟩
    rintro e W2 ⟨b, rfl, hE⟩
    have HE : Hid (J ys W2 ∨ ∃ q, q <+: ys ∧ Jx q W2) := hE
    clear hE
    refine hK _ _ ?_
    refine wpAnyIn_done (by kernel_rfl) ?_ _
    gi_wp2
    go_end0
    exact ⟨⟨_, rfl⟩, HE.out⟩
end
/-- Scan: the function, and the three boxes that it holds. -/
theorem scan_any (xb : Nat) (fr to : ByteArray) (w : World) : Calls Try.prog 16 #[.pointer (some ⟨xb, 0, none⟩), .string fr, .string to] w fun e w' => e = .returned (.func (.func 39) #[] #[.pointer (some ⟨w.heap.size, 0, none⟩), .pointer (some ⟨w.heap.size + 1, 0, none⟩), .pointer (some ⟨w.heap.size + 2, 0, none⟩)]) ∧
    w'.cell? ⟨w.heap.size, 0, none⟩ = some (.pointer (some ⟨xb, 0, none⟩)) ∧ w'.cell? ⟨w.heap.size + 1, 0, none⟩ = some (.string fr) ∧ w'.cell? ⟨w.heap.size + 2, 0, none⟩ = some (.string to) ∧ w.heap.size + 2 < w'.heap.size ∧ Below w.heap.size w w' := by
  go_enter Try.func16, Try.ntmps16
  go_wp2
  go_ret
  have c1 : ∀ (u : World) (v : Value) (t : TypeId), (u.alloc (.cells #[v] t)).cell? ⟨u.heap.size, 0, none⟩ = some v := fun u v t => by
    have := heap_alloc_new u (.cells #[v] t)
    unfold World.cell?
    rw [this]
    rfl
  have b1 : ∀ (u : World) (o : Obj), Below u.heap.size u (u.alloc o) := fun u o => (Below.refl _ _).alloc (Nat.le_refl _) _
  refine ⟨rfl, cell_later (b1 _ _) (cell_later (b1 _ _) (c1 w _ _)), ?_, ?_, ?_, ?_⟩
  · have := c1 (w.alloc (.cells #[.pointer (some ⟨xb, 0, none⟩)] 25)) (.string fr) 9
    rw [World.size_alloc] at this
    exact cell_later (b1 _ _) this
  · have := c1 ((w.alloc (.cells #[.pointer (some ⟨xb, 0, none⟩)] 25)).alloc (.cells #[.string fr] 9)) (.string to) 9
    rw [World.size_alloc, World.size_alloc] at this
    exact this
  · simp
  · exact (((Below.refl _ _).alloc (Nat.le_refl _) _).alloc (by simp) _).alloc (by simp; omega) _

end Go.Proofs.Ytcgjppacnhmjlaa
