/- Traceless: the walk. -/
import Derived.Test.YtcgjppacnhmjlaaTwo
set_option linter.unusedVariables false
set_option linter.unusedSimpArgs false
namespace Go.Proofs.Ytcgjppacnhmjlaa
open Go.RowKit
attribute [local go_sem ↓] Go.wp_at_zero Go.wp_at_succ

theorem StrsAt.on {w w' : World} {v : Value} {ss : List ByteArray} (h : StrsAt w v ss) (hb : Below w.heap.size w w') : StrsAt w' v ss := by
  rcases h with h | ⟨k, o, c, h1, h2⟩
  · exact .inl h
  · exact .inr ⟨k, o, c, h1, fun i s hs => cell_later hb (h2 i s hs)⟩
theorem idx_new {x y : Nat} {w : World} {z : Nat} (hz : z = x ∨ z = y) (h : w.heap[z]? = some (.cells #[.pointer none] 78 (0, 0))) : IndexAt (Sxy x y) w z [] :=
  ⟨⟨0, none, h, .inl ⟨rfl, rfl⟩⟩, fun e => by rcases hz with h | h; exact e.1 h; exact e.2 h, by simp⟩
/-- Both indexes new, both lists cut. -/
theorem two_start {w0 w2 w5 : World} {la ma : Option Addr} {L M : List ByteArray} (hb2 : Below w0.heap.size w0 w2) (hl : RowS (fun k => w0.heap.size ≤ k) w2 la L)
    (hb5 : Below ((w2.alloc (.cells #[.pointer none] 78)).alloc (.cells #[.pointer none] 78)).heap.size ((w2.alloc (.cells #[.pointer none] 78)).alloc (.cells #[.pointer none] 78)) w5)
    (hm : RowS (fun k => ((w2.alloc (.cells #[.pointer none] 78)).alloc (.cells #[.pointer none] 78)).heap.size ≤ k) w5 ma M) :
    Two w2.heap.size (w2.heap.size + 1) w0 w5 la ma L M [] [] := by
  have hsz : ((w2.alloc (.cells #[.pointer none] 78)).alloc (.cells #[.pointer none] 78)).heap.size = w2.heap.size + 2 := by simp
  have b4 : Below w2.heap.size w2 ((w2.alloc (.cells #[.pointer none] 78)).alloc (.cells #[.pointer none] 78)) := ((Below.refl _ _).alloc (Nat.le_refl _) _).alloc (by simp) _
  have b5 := b4.trans (hb5.mono b4.size)
  have hs5 := hb5.size
  rw [hsz] at hs5
  refine ⟨idx_new (.inl rfl) (blk_later hb5 (old_new _ _ _)), idx_new (.inr rfl) (blk_later hb5 (by have := heap_alloc_new (w2.alloc (.cells #[.pointer none] 78)) (.cells #[.pointer none] 78); simpa using this)), ?_, ?_, hb2.trans (b5.mono hb2.size), ?_, by omega, hb2.size, by have := hb2.size; omega⟩
  · refine RowS.on (w := w2) ?_ b5
    exact hl.weaken fun k _ hk => ⟨by omega, by omega⟩
  · refine hm.weaken fun k hk _ => ?_
    rw [hsz] at hk
    exact ⟨by omega, by omega⟩
  · exact fun k hk => ⟨by omega, by omega⟩
theorem Two.keyL {x y : Nat} {w0 wr : World} {la ma : Option Addr} {L M : List ByteArray} {LX LY : List KV} (h : Two x y w0 wr la ma L M LX LY) {j : Nat} (hj : j < L.length) : ∃ k, la = some ⟨k, 0, none⟩ ∧ ∀ (i : Nat) s, L[i]? = some s → wr.cell? ⟨k, i, none⟩ = some (.string s) := h.rl.at hj
theorem Two.keyM {x y : Nat} {w0 wr : World} {la ma : Option Addr} {L M : List ByteArray} {LX LY : List KV} (h : Two x y w0 wr la ma L M LX LY) {j : Nat} (hj : j < M.length) : ∃ k, ma = some ⟨k, 0, none⟩ ∧ ∀ (i : Nat) s, M[i]? = some s → wr.cell? ⟨k, i, none⟩ = some (.string s) := h.rm.at hj

def otherB : ByteArray := ⟨#[111, 116, 104, 101, 114]⟩
def p1 (M : List ByteArray) (j : Nat) : List KV := puts ((M.take j).map fun k => (k, otherB)) []
theorem p1_succ (M : List ByteArray) (j : Nat) (s : ByteArray) (h : M[j]? = some s) : p1 M (j + 1) = ins (kof s) otherB (p1 M j) := by
  unfold p1; rw [take_snoc' M j s h, List.map_append, List.map_cons, List.map_nil, puts_snoc]
theorem srt_p1 (M : List ByteArray) (j : Nat) : Srt (p1 M j) := srt_puts List.Pairwise.nil
theorem len_p1 (M : List ByteArray) (j : Nat) : (p1 M j).length ≤ M.length := by
  have := len_puts (ps := (M.take j).map fun k => (k, otherB)) (l := []) List.Pairwise.nil
  unfold p1; simp at this ⊢; omega

theorem Two.cellL {x y : Nat} {w0 wr : World} {k : Nat} {ma : Option Addr} {L M : List ByteArray} {LX LY : List KV} (h : Two x y w0 wr (some ⟨k, 0, none⟩) ma L M LX LY) {i : Nat} {s : ByteArray} (hs : L[i]? = some s) : wr.cell? ⟨k, i, none⟩ = some (.string s) := by
  rcases h.rl with ⟨_, h1⟩ | ⟨k', h1, _, _, h4⟩
  · cases h1
  · cases h1; exact h4 i s hs
theorem Two.cellM {x y : Nat} {w0 wr : World} {k : Nat} {la : Option Addr} {L M : List ByteArray} {LX LY : List KV} (h : Two x y w0 wr la (some ⟨k, 0, none⟩) L M LX LY) {i : Nat} {s : ByteArray} (hs : M[i]? = some s) : wr.cell? ⟨k, i, none⟩ = some (.string s) := by
  rcases h.rm with ⟨_, h1⟩ | ⟨k', h1, _, _, h4⟩
  · cases h1
  · cases h1; exact h4 i s hs
theorem Two.drew {x y : Nat} {w0 wr : World} {la ma : Option Addr} {L M : List ByteArray} {LX LY : List KV} (h : Two x y w0 wr la ma L M LX LY) : Two x y w0 wr.drew la ma L M LX LY := h.on (Below.refl _ _).drew
def p2 (L : List ByteArray) (j : Nat) (l : List KV) : List KV := puts ((L.take j).map fun k => (k, k)) l
theorem p2_succ (L : List ByteArray) (j : Nat) (s : ByteArray) (l : List KV) (h : L[j]? = some s) : p2 L (j + 1) l = ins (kof s) s (p2 L j l) := by
  unfold p2; rw [take_snoc' L j s h, List.map_append, List.map_cons, List.map_nil, puts_snoc]
theorem len_p2 (L : List ByteArray) (j : Nat) (l : List KV) (hl : Srt l) : (p2 L j l).length ≤ l.length + L.length := by
  have := len_puts (ps := (L.take j).map fun k => (k, k)) (l := l) hl
  unfold p2; simp at this ⊢; omega

theorem mineB_succ (L : List ByteArray) (i : Nat) (s t : ByteArray) (h : L[i]? = some t) : mineB (L.take (i + 1)) s = (mineB (L.take i) s || (t.toList == s.toList)) := by
  unfold mineB kof
  rw [take_snoc' L i t h, List.any_append, Lib.toList_data, Lib.toList_data]
  simp
theorem delsBut_succ (L M : List ByteArray) (j : Nat) (s : ByteArray) (l : List KV) (h : M[j]? = some s) : delsBut L (M.take (j + 1)) l = if mineB L s = true then delsBut L (M.take j) l else del (kof s) (delsBut L (M.take j) l) := by
  rw [take_snoc' M j s h, delsBut_snoc]

theorem p2_all (L : List ByteArray) (l : List KV) : p2 L L.length l = puts (L.map fun k => (k, k)) l := by unfold p2; rw [List.take_of_length_le (Nat.le_refl _)]
/-- What was there in between leaves no trace. -/
theorem no_trace (L M : List ByteArray) : delsBut L M (p2 L.reverse L.length (p1 M M.length)) = p2 L L.length [] := by
  have e1 : p2 L.reverse L.length (p1 M M.length) = puts (L.reverse.map fun k => (k, k)) (p1 M M.length) := by rw [← p2_all, List.length_reverse]
  have e2 : p1 M M.length = puts (M.map fun k => (k, otherB)) [] := by unfold p1; rw [List.take_of_length_le (Nat.le_refl _)]
  rw [e1, p2_all]
  refine Srt.ext (srt_delsBut (srt_puts (srt_p1 _ _))) (srt_puts List.Pairwise.nil) fun e => ?_
  rw [mem_delsBut, mem_puts (f := fun k => k), mem_puts (f := fun k => k), e2, mem_puts (f := fun _ => otherB)]
  constructor
  · rintro ⟨⟨k, h1, h2⟩ | ⟨⟨m, h1, h2⟩ | ⟨h1, _⟩, h3⟩, h4⟩
    · exact .inl ⟨k, List.mem_reverse.mp h1, h2⟩
    · exfalso
      have hm : ¬ mineB L m = true := fun h => h3 m (List.mem_reverse.mpr (mineB_iff.mp h)) (by rw [h2])
      exact h4 m h1 hm (by rw [h2])
    · cases h1
  · rintro (⟨k, h1, h2⟩ | ⟨h1, _⟩)
    · refine ⟨.inl ⟨k, List.mem_reverse.mpr h1, h2⟩, fun m hm hmine h5 => hmine (mineB_iff.mpr ?_)⟩
      rw [h2] at h5
      exact kof_inj h5 ▸ h1
    · cases h1
theorem lk_p2 (L : List ByteArray) (s : ByteArray) (h : s ∈ L) : lk (kof s) (p2 L L.length []) = some s := by
  rw [p2_all]
  exact lk_some (srt_puts List.Pairwise.nil) ((mem_puts (f := fun k => k)).mpr (.inl ⟨s, h, rfl⟩))
theorem two_shapes {x y : Nat} {w0 wr : World} {la ma : Option Addr} {L M : List ByteArray} {X : List KV} (h : Two x y w0 wr la ma L M X X) : ∃ c g, (c 0 ≤ X.length) ∧
    (∀ w1, Two x y w0 w1 la ma L M X X → Calls Try.prog 14 #[.pointer (some ⟨x, 0, none⟩)] w1 fun e w' => e = .returned (shapeV c g) ∧ Two x y w0 w' la ma L M X X ∧ Below w1.heap.size w1 w') ∧
    (∀ w1, Two x y w0 w1 la ma L M X X → Calls Try.prog 14 #[.pointer (some ⟨y, 0, none⟩)] w1 fun e w' => e = .returned (shapeV c g) ∧ Two x y w0 w' la ma L M X X ∧ Below w1.heap.size w1 w') := by
  obtain ⟨c, g, hs, _⟩ := indexShape_any h.ix
  refine ⟨c, g, ?_, fun w1 h1 => ?_, fun w1 h1 => ?_⟩
  · rcases hs with ⟨_, rfl, _⟩ | ⟨n, hs⟩
    · exact Nat.zero_le _
    · exact hs.bounds.2.2.2
  · obtain ⟨c', g', hs', hc⟩ := indexShape_any h1.ix
    obtain ⟨rfl, rfl⟩ := hs.uniq hs'
    exact hc.mono fun e w' he => ⟨he.1, h1.on he.2, he.2⟩
  · obtain ⟨c', g', hs', hc⟩ := indexShape_any h1.iy
    obtain ⟨rfl, rfl⟩ := hs.uniq hs'
    exact hc.mono fun e w' he => ⟨he.1, h1.on he.2, he.2⟩
theorem two_lenX {x y : Nat} {w0 wr : World} {la ma : Option Addr} {L M : List ByteArray} {X Y : List KV} (h : Two x y w0 wr la ma L M X Y) : Calls Try.prog 15 #[.pointer (some ⟨x, 0, none⟩)] wr fun e w' => e = .returned (.int .i64 X.length) ∧ w' = wr := indexLen_any h.ix
theorem two_lenY {x y : Nat} {w0 wr : World} {la ma : Option Addr} {L M : List ByteArray} {X Y : List KV} (h : Two x y w0 wr la ma L M X Y) : Calls Try.prog 15 #[.pointer (some ⟨y, 0, none⟩)] wr fun e w' => e = .returned (.int .i64 Y.length) ∧ w' = wr := indexLen_any h.iy

set_option maxRecDepth 100000 in
set_option maxHeartbeats 8000000 in
theorem traceless_any {w : World} {kv ov : Value} {ks os : List ByteArray} (hk : StrsAt w kv ks) (ho : StrsAt w ov os) (hkl : ks.length ≤ 9223372036854775807) (hol : os.length ≤ 9223372036854775807) (hks : ∀ s ∈ ks, s.size ≤ 9223372036854775807) (hos : ∀ s ∈ os, s.size ≤ 9223372036854775807) :
    Calls Try.prog 3 #[kv, ov] w fun e w' => e = .returned (.bool true) ∧ Below w.heap.size w w' := by
  have hL300 : (shortOf ks).length ≤ 300 := by rw [shortOf_len]; omega
  have hM300 : (shortOf os).length ≤ 300 := by rw [shortOf_len]; omega
  have HL64 : Hid (∀ s ∈ shortOf ks, s.size ≤ 64) := fun s hs => by obtain ⟨a, _, rfl⟩ := List.mem_map.mp hs; exact cut64_size a
  have HM64 : Hid (∀ s ∈ shortOf os, s.size ≤ 64) := fun s hs => by obtain ⟨a, _, rfl⟩ := List.mem_map.mp hs; exact cut64_size a
  have HA : Hid (Calls Try.prog 8 #[] w fun e w' => e = .returned (.bool true) ∧ Below w.heap.size w w') := awake_any w
  have HS1 : Hid (∀ w1, Below w.heap.size w w1 → Calls Try.prog 9 #[kv] w1 fun e w' => ∃ ao c, e = .returned (.slice ao (shortOf ks).length c) ∧ RowS (fun k => w.heap.size ≤ k) w' ao (shortOf ks) ∧ Below w.heap.size w w') := fun w1 hb => (short_row (hk.on hb) hkl hks).mono fun e w' he => by
    obtain ⟨ao, c, h1, h2, h3⟩ := he
    exact ⟨ao, c, h1, h2.weaken (fun k h4 _ => Nat.le_trans hb.size h4), hb.trans (h3.mono hb.size)⟩
  have HS2 : Hid (∀ w1, Below w.heap.size w w1 → Calls Try.prog 9 #[ov] w1 fun e w' => ∃ ao c, e = .returned (.slice ao (shortOf os).length c) ∧ RowS (fun k => w1.heap.size ≤ k) w' ao (shortOf os) ∧ Below w1.heap.size w1 w') := fun w1 hb => short_row (ho.on hb) hol hos
  clear hk ho hks hos
  generalize hLd : shortOf ks = L at *
  generalize hMd : shortOf os = M at *
  clear hLd hMd
  go_enter Try.func3, Try.ntmps3
  go_wp2_with (first
    | (go_at_call 8; refine HA.out.mono ?_; rintro e w1 ⟨rfl, hb1⟩)
    | (go_at_call_of 9 kv; refine (HS1.out _ hb1).mono ?_; rintro e w2 ⟨la, lc, rfl, hrl, hb2⟩)
    | (go_at_call 10; refine (new_any _).mono ?_; rintro e w' ⟨rfl, rfl⟩)
    | (go_at_call_of 9 ov; refine (HS2.out _ (hb2.trans ((((Below.refl _ _).alloc (Nat.le_refl _) _).alloc (by simp) _).mono hb2.size))).mono ?_; rintro e w5 ⟨ma, mc, rfl, hrm, hb5⟩))
  have HT0 : Hid (Two w2.heap.size (w2.heap.size + 1) w w5 la ma L M [] []) := two_start hb2 hrl hb5 hrm
  clear hb1 hb2 hrl hb5 hrm
  generalize w2.heap.size = x at *
  go_loopg [10] M.length (fun gk s10 wr => ∃ j : Nat, j ≤ M.length ∧ gk + j = M.length ∧ s10 = .int .i64 j ∧ Hid (Two x (x + 1) w wr la ma L M [] (p1 M j)))
  case atStart => exact ⟨0, Nat.zero_le _, by omega, rfl, HT0.out⟩
  case round =>
    obtain ⟨j, hj, hg, rfl, HT⟩ := hrel
    by_cases hlt : j < M.length
    · obtain ⟨s, hs⟩ : ∃ s, M[j]? = some s := ⟨M[j], List.getElem?_eq_getElem hlt⟩
      obtain ⟨km, hma, hcm⟩ := HT.out.keyM hlt
      have hcell := hcm j s hs
      have HP : Hid (Calls Try.prog 11 #[.pointer (some ⟨x + 1, 0, none⟩), .string s, .string otherB] wr fun e w' => (∃ a b, e = .returned (.tuple #[.string a, .bool b, .int .i64 0])) ∧ Two x (x + 1) w w' la ma L M [] (p1 M (j + 1))) := by
        rw [p1_succ M j s hs]
        exact two_putY HT.out (HM64.out s (List.mem_of_getElem? hs)) (by have := len_p1 M j; omega)
      clear hs hcm
      subst hma
      unfold otherB at HP
      go_wp2_with (go_at_call 11; refine HP.out.mono ?_; rintro e w' ⟨⟨a, b, rfl⟩, hT'⟩)
      go_roundg (gk - 1)
      case measure => omega
      case rel => exact ⟨j + 1, by omega, by omega, by go_num, hT'⟩
    · have ej : j = M.length := by omega
      subst ej
      have HT1 : Hid (Two x (x + 1) w wr la ma L M [] (p1 M M.length)) := HT.out
      clear HT HT0 hj hg hlt
      go_wp2
      go_loopg [11] L.length (fun gk s11 wr => ∃ j : Nat, j ≤ L.length ∧ gk + j = L.length ∧ s11 = .int .i64 j ∧ Hid (Two x (x + 1) w wr la ma L M (p2 L j []) (p2 L.reverse j (p1 M M.length))))
      case atStart => exact ⟨0, Nat.zero_le _, by omega, rfl, HT1.out⟩
      case round =>
        clear HT1
        obtain ⟨j, hj, hg, rfl, HT⟩ := hrel
        by_cases hlt : j < L.length
        · obtain ⟨s, hs⟩ : ∃ s, L[j]? = some s := ⟨L[j], List.getElem?_eq_getElem hlt⟩
          obtain ⟨r, hr⟩ : ∃ r : Nat, r + 1 + j = L.length := ⟨L.length - 1 - j, by omega⟩
          obtain ⟨s', hs'⟩ : ∃ s, L[r]? = some s := ⟨L[r]'(by omega), List.getElem?_eq_getElem _⟩
          have hrev : L.reverse[j]? = some s' := by rw [List.getElem?_reverse hlt, ← hs']; congr 1; omega
          obtain ⟨kl, hla, hcl⟩ := HT.out.keyL hlt
          clear hcl
          subst hla
          have hc1 := HT.out.cellL hs
          have hc2 := HT.out.cellL hs'
          have hw1 : IntKind.i64.wrap ((L.length : Int) - 1) = (L.length : Int) - 1 := by rw [IntKind.wrap_i64]; omega
          have hw2 : IntKind.i64.wrap ((L.length : Int) - 1 - (j : Int)) = (r : Int) := by rw [IntKind.wrap_i64]; omega
          have hb0 : (0 : Int) ≤ (j : Int) := Int.natCast_nonneg _
          have hb1 : (j : Int) < (L.length : Int) := by omega
          have hb2 : (0 : Int) ≤ (r : Int) := Int.natCast_nonneg _
          have hb3 : (r : Int) < (L.length : Int) := by omega
          have HPX : Hid (∀ w1, Two x (x + 1) w w1 (some ⟨kl, 0, none⟩) ma L M (p2 L j []) (p2 L.reverse j (p1 M M.length)) → Calls Try.prog 11 #[.pointer (some ⟨x, 0, none⟩), .string s, .string s] w1 fun e w' => (∃ a b, e = .returned (.tuple #[.string a, .bool b, .int .i64 0])) ∧ Two x (x + 1) w w' (some ⟨kl, 0, none⟩) ma L M (p2 L (j + 1) []) (p2 L.reverse j (p1 M M.length))) := fun w1 h => by
            rw [p2_succ L j s _ hs]
            exact two_putX h (HL64.out s (List.mem_of_getElem? hs)) (by have := len_p2 L j [] List.Pairwise.nil; simp at this; omega)
          have HPY : Hid (∀ w1, Two x (x + 1) w w1 (some ⟨kl, 0, none⟩) ma L M (p2 L (j + 1) []) (p2 L.reverse j (p1 M M.length)) → Calls Try.prog 11 #[.pointer (some ⟨x + 1, 0, none⟩), .string s', .string s'] w1 fun e w' => (∃ a b, e = .returned (.tuple #[.string a, .bool b, .int .i64 0])) ∧ Two x (x + 1) w w' (some ⟨kl, 0, none⟩) ma L M (p2 L (j + 1) []) (p2 L.reverse (j + 1) (p1 M M.length))) := fun w1 h => by
            rw [p2_succ L.reverse j s' _ hrev]
            exact two_putY h (HL64.out s' (List.mem_of_getElem? hs')) (by have h1 := len_p2 L.reverse j _ (srt_p1 M M.length); have h2 := len_p1 M M.length; rw [List.length_reverse] at h1; omega)
          have HS : Hid (L[j]? = some s ∧ L[r]? = some s') := ⟨hs, hs'⟩
          clear hs hs' hrev hr
          go_wp2_with fail
          go_region_held3 (fun w' => w'.cell? ⟨kl, j, none⟩ = some (.string s)) (first | exact hTx.cellL HS.out.1 | go_keep)
            ((go_at_call 11; refine (HPX.out _ HT.out.drew).mono ?_; rintro e w' ⟨⟨a, b, rfl⟩, hTx⟩))
          have hc3 := hTx.cellL HS.out.2
          clear hc1 hc2 HT
          go_wp2_with fail
          go_region_held3 (fun w' => w'.cell? ⟨kl, r, none⟩ = some (.string s')) (first | exact hTy.cellL HS.out.2 | go_keep)
            ((go_at_call 11; refine (HPY.out _ hTx.drew).mono ?_; rintro e w'' ⟨⟨a', b', rfl⟩, hTy⟩))
          go_wp2
          go_roundg (gk - 1)
          case measure => omega
          case rel => exact ⟨j + 1, by omega, by omega, by go_num, hTy⟩
        · have ej : j = L.length := by omega
          subst ej
          have HT2 : Hid (Two x (x + 1) w wr la ma L M (p2 L L.length []) (p2 L.reverse L.length (p1 M M.length))) := HT.out
          clear HT hj hg hlt
          generalize hX2 : p2 L L.length [] = X2 at HT2
          generalize hY2 : p2 L.reverse L.length (p1 M M.length) = Y2 at HT2
          have HX2 : Hid (p2 L L.length [] = X2 ∧ p2 L.reverse L.length (p1 M M.length) = Y2) := ⟨hX2, hY2⟩
          clear hX2 hY2
          go_wp2
          go_loopg [12] M.length (fun gk s12 wr => ∃ j : Nat, j ≤ M.length ∧ gk + j = M.length ∧ s12 = .int .i64 j ∧ Hid (Two x (x + 1) w wr la ma L M X2 (delsBut L (M.take j) Y2)))
          case atStart => exact ⟨0, Nat.zero_le _, by omega, rfl, HT2.out⟩
          case round =>
            clear HT2
            obtain ⟨j, hj, hg, rfl, HT⟩ := hrel
            by_cases hlt : j < M.length
            · obtain ⟨s, hs⟩ : ∃ s, M[j]? = some s := ⟨M[j], List.getElem?_eq_getElem hlt⟩
              obtain ⟨km, hma, hcm⟩ := HT.out.keyM hlt
              clear hcm
              subst hma
              have HSs : Hid (M[j]? = some s) := hs
              have HDs : Hid (delsBut L (M.take (j + 1)) Y2 = if mineB L s = true then delsBut L (M.take j) Y2 else del (kof s) (delsBut L (M.take j) Y2)) := delsBut_succ L M j s Y2 hs
              have hs64 : s.size ≤ 64 := HM64.out s (List.mem_of_getElem? hs)
              have hb0 : (0 : Int) ≤ (j : Int) := Int.natCast_nonneg _
              have hb1 : (j : Int) < (M.length : Int) := by omega
              obtain ⟨gko, hgo⟩ : ∃ g, g = gk := ⟨gk, rfl⟩
              have HGO : Hid (gko = gk) := hgo
              clear hs hgo
              go_wp2
              go_loopg [13, 14] L.length (fun gk' s13 s14 wr' => ∃ i : Nat, i ≤ L.length ∧ gk' + i = L.length ∧ s13 = .bool (mineB (L.take i) s) ∧ s14 = .int .i64 i ∧ Hid (Two x (x + 1) w wr' la (some ⟨km, 0, none⟩) L M X2 (delsBut L (M.take j) Y2)))
              case atStart => exact ⟨0, Nat.zero_le _, by omega, rfl, rfl, HT.out⟩
              case round =>
                clear HT
                obtain ⟨i, hi, hgi, rfl, rfl, HTi⟩ := hrel
                by_cases hil : i < L.length
                · obtain ⟨t, ht⟩ : ∃ t, L[i]? = some t := ⟨L[i], List.getElem?_eq_getElem hil⟩
                  obtain ⟨kl, hla, hcl⟩ := HTi.out.keyL hil
                  clear hcl
                  subst hla
                  have hc1 := HTi.out.cellL ht
                  have hc2 := HTi.out.cellM HSs.out
                  have HMS : Hid (mineB (L.take (i + 1)) s = (mineB (L.take i) s || (t.toList == s.toList))) := mineB_succ L i s t ht
                  have hb2 : (0 : Int) ≤ (i : Int) := Int.natCast_nonneg _
                  have hb3 : (i : Int) < (L.length : Int) := by omega
                  clear ht
                  generalize mineB (L.take i) s = mb at *
                  cases mb with
                  | true =>
                    go_wp2_with fail
                    go_quiet (fail)
                    go_wp2
                    go_roundg (gk - 1)
                    case measure => omega
                    case rel => exact ⟨i + 1, by omega, by omega, by rw [HMS.out]; rfl, by go_num, HTi.out.on (below_drawn _ _)⟩
                  | false =>
                    go_wp2_with fail
                    go_quiet (fail)
                    go_wp2
                    go_roundg (gk - 1)
                    case measure => omega
                    case rel => exact ⟨i + 1, by omega, by omega, by rw [HMS.out]; rfl, by go_num, HTi.out.on (below_drawn _ _)⟩
                · have ei : i = L.length := by omega
                  subst ei
                  have hc2 := HTi.out.cellM HSs.out
                  have HTk : Hid (L.take L.length = L) := List.take_of_length_le (Nat.le_refl _)
                  rw [HTk.out]
                  by_cases hm : mineB L s = true
                  · have HE : Hid (delsBut L (M.take (j + 1)) Y2 = delsBut L (M.take j) Y2) := by have := HDs.out; rw [if_pos hm] at this; exact this
                    clear HDs
                    go_wp2
                    go_roundg (gko - 1)
                    case measure => have := HGO.out; omega
                    case rel => exact ⟨j + 1, by omega, by have := HGO.out; omega, by go_num, by rw [HE.out]; exact HTi.out⟩
                  · have hm' : mineB L s = false := by simpa using hm
                    have HE : Hid (delsBut L (M.take (j + 1)) Y2 = del (kof s) (delsBut L (M.take j) Y2)) := by have := HDs.out; rw [if_neg hm] at this; exact this
                    have HDe : Hid (∀ w1, Two x (x + 1) w w1 la (some ⟨km, 0, none⟩) L M X2 (delsBut L (M.take j) Y2) → Calls Try.prog 12 #[.pointer (some ⟨x + 1, 0, none⟩), .string s] w1 fun e w' => (∃ a b, e = .returned (.tuple #[.string a, .bool b])) ∧ Two x (x + 1) w w' la (some ⟨km, 0, none⟩) L M X2 (delsBut L (M.take (j + 1)) Y2)) := fun w1 h => by
                      rw [HE.out]; exact two_delY h (by omega)
                    clear HDs hm
                    go_wp2_with (go_at_call 12; refine (HDe.out _ HTi.out).mono ?_; rintro e w' ⟨⟨a, b, rfl⟩, hTd⟩)
                    go_roundg (gko - 1)
                    case measure => have := HGO.out; omega
                    case rel => exact ⟨j + 1, by omega, by have := HGO.out; omega, by go_num, hTd⟩
            · have ej : j = M.length := by omega
              subst ej
              have HT3 : Hid (Two x (x + 1) w wr la ma L M X2 (delsBut L M Y2)) := by have := HT.out; rw [List.take_of_length_le (Nat.le_refl _)] at this; exact this
              clear HT hj hg hlt
              go_wp2
              have HT4 : Hid (Two x (x + 1) w wr la ma L M X2 X2) := by
                have := HT3.out; rw [← HX2.out.2, no_trace L M, HX2.out.1] at this; exact this
              have HLK : Hid (∀ s ∈ L, lk (kof s) X2 = some s) := fun s hs => by rw [← HX2.out.1]; exact lk_p2 L s hs
              clear HT3 HX2
              go_loopg [15] L.length (fun gk s15 wr => ∃ j : Nat, j ≤ L.length ∧ gk + j = L.length ∧ s15 = .int .i64 j ∧ Hid (Two x (x + 1) w wr la ma L M X2 X2))
              case atStart => exact ⟨0, Nat.zero_le _, by omega, rfl, HT4.out⟩
              case round =>
                clear HT4
                obtain ⟨j, hj, hg, rfl, HT⟩ := hrel
                by_cases hlt : j < L.length
                · obtain ⟨s, hs⟩ : ∃ s, L[j]? = some s := ⟨L[j], List.getElem?_eq_getElem hlt⟩
                  obtain ⟨kl, hla, hcl⟩ := HT.out.keyL hlt
                  clear hcl
                  subst hla
                  have hc1 := HT.out.cellL hs
                  have HSs : Hid (L[j]? = some s) := hs
                  have hs64 : s.size ≤ 64 := HL64.out s (List.mem_of_getElem? hs)
                  have HGX : Hid (∀ w1, Two x (x + 1) w w1 (some ⟨kl, 0, none⟩) ma L M X2 X2 → Calls Try.prog 13 #[.pointer (some ⟨x, 0, none⟩), .string s] w1 fun e w' => e = .returned (.tuple #[.string s, .bool true]) ∧ Two x (x + 1) w w' (some ⟨kl, 0, none⟩) ma L M X2 X2) := fun w1 h => two_getX h (by omega) (HLK.out s (List.mem_of_getElem? HSs.out))
                  have HGY : Hid (∀ w1, Two x (x + 1) w w1 (some ⟨kl, 0, none⟩) ma L M X2 X2 → Calls Try.prog 13 #[.pointer (some ⟨x + 1, 0, none⟩), .string s] w1 fun e w' => e = .returned (.tuple #[.string s, .bool true]) ∧ Two x (x + 1) w w' (some ⟨kl, 0, none⟩) ma L M X2 X2) := fun w1 h => two_getY h (by omega) (HLK.out s (List.mem_of_getElem? HSs.out))
                  have hb0 : (0 : Int) ≤ (j : Int) := Int.natCast_nonneg _
                  have hb1 : (j : Int) < (L.length : Int) := by omega
                  clear hs
                  go_wp2_with (first
                    | (go_at_call_of 13 (Value.pointer (some (Addr.mk x 0 none))); refine (HGX.out _ HT.out).mono ?_; rintro e w' ⟨rfl, hT1⟩; have hc2 := hT1.cellL HSs.out)
                    | (go_at_call 13; refine (HGY.out _ hT1).mono ?_; rintro e w'' ⟨rfl, hT2⟩; have hc3 := hT2.cellL HSs.out))
                  go_roundg (gk - 1)
                  case measure => omega
                  case rel => exact ⟨j + 1, by omega, by omega, by go_num, hT2⟩
                · obtain ⟨c, g, hc0, hsx, hsy⟩ := two_shapes HT.out
                  have HSX : Hid (∀ w1, Two x (x + 1) w w1 la ma L M X2 X2 → Calls Try.prog 14 #[.pointer (some ⟨x, 0, none⟩)] w1 fun e w' => e = .returned (shapeV c g) ∧ Two x (x + 1) w w' la ma L M X2 X2 ∧ Below w1.heap.size w1 w') := hsx
                  have HSY : Hid (∀ w1, Two x (x + 1) w w1 la ma L M X2 X2 → Calls Try.prog 14 #[.pointer (some ⟨x + 1, 0, none⟩)] w1 fun e w' => e = .returned (shapeV c g) ∧ Two x (x + 1) w w' la ma L M X2 X2 ∧ Below w1.heap.size w1 w') := hsy
                  have hleI : (c 0 : Int) ≤ (X2.length : Int) := by omega
                  clear hsx hsy
                  unfold shapeV at HSX HSY
                  go_wp2_with (first
                    | (go_at_call_of 14 (Value.pointer (some (Addr.mk x 0 none))); refine (HSX.out _ HT.out).mono ?_; rintro e w' ⟨rfl, hT1, _⟩)
                    | (go_at_call 14; refine (HSY.out _ (hT1.on (below_alloc _ _))).mono ?_; rintro e w'' ⟨rfl, hT2, hbY⟩))
                  have hz : w''.heap[w'.heap.size]? = some (shp c g) := blk_later hbY (heap_alloc_new w' _)
                  obtain ⟨d0, d1, d2, d3, d4, d5⟩ := shp_cell hz
                  have e0 := fun ob => cell_later (below_alloc w'' ob) d0
                  have e1 := fun ob => cell_later (below_alloc w'' ob) d1
                  have e2 := fun ob => cell_later (below_alloc w'' ob) d2
                  have e3 := fun ob => cell_later (below_alloc w'' ob) d3
                  have e4 := fun ob => cell_later (below_alloc w'' ob) d4
                  have e5 := fun ob => cell_later (below_alloc w'' ob) d5
                  have HT5 : Hid (∀ ob n, Two x (x + 1) w ((w''.alloc ob).drewN n) la ma L M X2 X2) := fun ob n => (hT2.on (below_alloc _ _)).on (below_drawn _ _)
                  clear d0 d1 d2 d3 d4 d5 hz hbY hT1 hT2
                  go_quiet (first
                    | (go_at_call_of 15 (Value.pointer (some (Addr.mk x 0 none))); exact Calls.quiet_of_same (two_lenX (HT5.out _ _)))
                    | (go_at_call 15; exact Calls.quiet_of_same (two_lenY (HT5.out _ _))))
                  go_wp2
                  go_ret
                  exact ⟨rfl, (HT5.out _ _).below⟩

end Go.Proofs.Ytcgjppacnhmjlaa
