/- Two indexes beside one another, with two lists of texts. -/
import Derived.Test.YtcgjppacnhmjlaaAwake
import Derived.Test.YtcgjppacnhmjlaaLawFacts
set_option linter.unusedVariables false
set_option linter.unusedSimpArgs false
namespace Go.Proofs.Ytcgjppacnhmjlaa
open Go.RowKit

/-- A list of texts in memory that stays. -/
def RowS (S : Nat → Prop) (w : World) (ao : Option Addr) (ss : List ByteArray) : Prop := (ss = [] ∧ ao = none) ∨ ∃ k, ao = some ⟨k, 0, none⟩ ∧ S k ∧ k < w.heap.size ∧ ∀ (i : Nat) s, ss[i]? = some s → w.cell? ⟨k, i, none⟩ = some (.string s)
theorem RowS.on {S : Nat → Prop} {w w' : World} {ao : Option Addr} {ss : List ByteArray} (h : RowS S w ao ss) (hb : Below w.heap.size w w') : RowS S w' ao ss := by
  rcases h with h | ⟨k, h1, h2, h3, h4⟩
  · exact .inl h
  · exact .inr ⟨k, h1, h2, Nat.lt_of_lt_of_le h3 hb.size, fun i s hs => cell_later hb (h4 i s hs)⟩
theorem RowS.but {S : Nat → Prop} {w w' : World} {x : Nat} {ao : Option Addr} {ss : List ByteArray} (h : RowS S w ao ss) (hb : But x w w') (hS : ¬ S x) : RowS S w' ao ss := by
  rcases h with h | ⟨k, h1, h2, h3, h4⟩
  · exact .inl h
  · exact .inr ⟨k, h1, h2, Nat.lt_of_lt_of_le h3 hb.size, fun i s hs => (World.cell?_of_block (w := w) (a := ⟨k, i, none⟩) (hb.block k h3 (fun e => hS (e ▸ h2)))).trans (h4 i s hs)⟩
theorem RowS.weaken {S S' : Nat → Prop} {w : World} {ao : Option Addr} {ss : List ByteArray} (h : RowS S w ao ss) (hS : ∀ k, S k → k < w.heap.size → S' k) : RowS S' w ao ss := by
  rcases h with h | ⟨k, h1, h2, h3, h4⟩
  · exact .inl h
  · exact .inr ⟨k, h1, hS k h2 h3, h3, h4⟩
theorem RowS.at {S : Nat → Prop} {w : World} {ao : Option Addr} {ss : List ByteArray} (h : RowS S w ao ss) {j : Nat} (hj : j < ss.length) : ∃ k, ao = some ⟨k, 0, none⟩ ∧ ∀ (i : Nat) s, ss[i]? = some s → w.cell? ⟨k, i, none⟩ = some (.string s) := by
  rcases h with ⟨rfl, _⟩ | ⟨k, h1, h2, h3, h4⟩
  · simp at hj
  · exact ⟨k, h1, h4⟩
theorem short_row {w : World} {v : Value} {ss : List ByteArray} (h : StrsAt w v ss) (hlen : ss.length ≤ 9223372036854775807) (hsz : ∀ s ∈ ss, s.size ≤ 9223372036854775807) :
    Calls Try.prog 9 #[v] w fun e w' => ∃ ao c, e = .returned (.slice ao (shortOf ss).length c) ∧ RowS (fun k => w.heap.size ≤ k) w' ao (shortOf ss) ∧ Below w.heap.size w w' := by
  refine (short_any h hlen hsz).mono ?_
  rintro e w' ⟨v', rfl, h1, h2⟩
  rcases h1 with ⟨h3, rfl⟩ | ⟨k, c, h4, h6, rfl, h5⟩
  · exact ⟨none, 0, by rw [h3]; rfl, .inl ⟨h3, rfl⟩, h2⟩
  · exact ⟨_, c, rfl, .inr ⟨k, rfl, h4, h6, h5⟩, h2⟩

def Sxy (x y : Nat) : Nat → Prop := fun k => k ≠ x ∧ k ≠ y
structure Two (x y : Nat) (w0 wr : World) (la ma : Option Addr) (L M : List ByteArray) (LX LY : List KV) : Prop where
  ix : IndexAt (Sxy x y) wr x LX
  iy : IndexAt (Sxy x y) wr y LY
  rl : RowS (Sxy x y) wr la L
  rm : RowS (Sxy x y) wr ma M
  below : Below w0.heap.size w0 wr
  opn : Open (Sxy x y) wr
  ne : x ≠ y
  lox : w0.heap.size ≤ x
  loy : w0.heap.size ≤ y
theorem Two.on {x y : Nat} {w0 wr w' : World} {la ma : Option Addr} {L M : List ByteArray} {LX LY : List KV} (h : Two x y w0 wr la ma L M LX LY) (hb : Below wr.heap.size wr w') : Two x y w0 w' la ma L M LX LY :=
  ⟨h.ix.on hb, h.iy.on hb, h.rl.on hb, h.rm.on hb, h.below.trans (hb.mono h.below.size), h.opn.later hb, h.ne, h.lox, h.loy⟩
theorem Two.butX {x y : Nat} {w0 wr w' : World} {la ma : Option Addr} {L M : List ByteArray} {LX LX' LY : List KV} (h : Two x y w0 wr la ma L M LX LY) (hx : IndexAt (Sxy x y) w' x LX') (hb : But x wr w') : Two x y w0 w' la ma L M LX' LY :=
  ⟨hx, h.iy.but hb h.ne.symm (fun e => e.1 rfl), h.rl.but hb (fun e => e.1 rfl), h.rm.but hb (fun e => e.1 rfl), h.below.trans (hb.below h.lox h.below.size), h.opn.but hb, h.ne, h.lox, h.loy⟩
theorem Two.butY {x y : Nat} {w0 wr w' : World} {la ma : Option Addr} {L M : List ByteArray} {LX LY LY' : List KV} (h : Two x y w0 wr la ma L M LX LY) (hy : IndexAt (Sxy x y) w' y LY') (hb : But y wr w') : Two x y w0 w' la ma L M LX LY' :=
  ⟨h.ix.but hb h.ne (fun e => e.2 rfl), hy, h.rl.but hb (fun e => e.2 rfl), h.rm.but hb (fun e => e.2 rfl), h.below.trans (hb.below h.loy h.below.size), h.opn.but hb, h.ne, h.lox, h.loy⟩
theorem two_putX {x y : Nat} {w0 wr : World} {la ma : Option Addr} {L M : List ByteArray} {LX LY : List KV} (h : Two x y w0 wr la ma L M LX LY) {key : ByteArray} {v : ByteArray} (hk : key.size ≤ 64) (hf : LX.length < 3000) :
    Calls Try.prog 11 #[.pointer (some ⟨x, 0, none⟩), .string key, .string v] wr fun e w' => (∃ a b, e = .returned (.tuple #[.string a, .bool b, .int .i64 0])) ∧ Two x y w0 w' la ma L M (ins (kof key) v LX) LY :=
  (put_room h.opn h.ix hk hf).mono fun e w' he => ⟨he.1, h.butX he.2.1 he.2.2⟩
theorem two_putY {x y : Nat} {w0 wr : World} {la ma : Option Addr} {L M : List ByteArray} {LX LY : List KV} (h : Two x y w0 wr la ma L M LX LY) {key : ByteArray} {v : ByteArray} (hk : key.size ≤ 64) (hf : LY.length < 3000) :
    Calls Try.prog 11 #[.pointer (some ⟨y, 0, none⟩), .string key, .string v] wr fun e w' => (∃ a b, e = .returned (.tuple #[.string a, .bool b, .int .i64 0])) ∧ Two x y w0 w' la ma L M LX (ins (kof key) v LY) :=
  (put_room h.opn h.iy hk hf).mono fun e w' he => ⟨he.1, h.butY he.2.1 he.2.2⟩
theorem two_delY {x y : Nat} {w0 wr : World} {la ma : Option Addr} {L M : List ByteArray} {LX LY : List KV} (h : Two x y w0 wr la ma L M LX LY) {key : ByteArray} (hk : key.size ≤ 9223372036854775807) :
    Calls Try.prog 12 #[.pointer (some ⟨y, 0, none⟩), .string key] wr fun e w' => (∃ a b, e = .returned (.tuple #[.string a, .bool b])) ∧ Two x y w0 w' la ma L M LX (del (kof key) LY) :=
  (delete_any h.opn h.iy hk).mono fun e w' he => ⟨⟨_, _, he.1⟩, h.butY he.2.1 he.2.2⟩
theorem two_getX {x y : Nat} {w0 wr : World} {la ma : Option Addr} {L M : List ByteArray} {LX LY : List KV} (h : Two x y w0 wr la ma L M LX LY) {key : ByteArray} (hk : key.size ≤ 9223372036854775807) {u : ByteArray} (hu : lk (kof key) LX = some u) :
    Calls Try.prog 13 #[.pointer (some ⟨x, 0, none⟩), .string key] wr fun e w' => e = .returned (.tuple #[.string u, .bool true]) ∧ Two x y w0 w' la ma L M LX LY :=
  (indexGet_any h.ix hk).mono fun e w' he => ⟨by rw [he.1, show lk key.data.toList LX = some u from hu]; rfl, h.on he.2⟩
theorem two_getY {x y : Nat} {w0 wr : World} {la ma : Option Addr} {L M : List ByteArray} {LX LY : List KV} (h : Two x y w0 wr la ma L M LX LY) {key : ByteArray} (hk : key.size ≤ 9223372036854775807) {u : ByteArray} (hu : lk (kof key) LY = some u) :
    Calls Try.prog 13 #[.pointer (some ⟨y, 0, none⟩), .string key] wr fun e w' => e = .returned (.tuple #[.string u, .bool true]) ∧ Two x y w0 w' la ma L M LX LY :=
  (indexGet_any h.iy hk).mono fun e w' he => ⟨by rw [he.1, show lk key.data.toList LY = some u from hu]; rfl, h.on he.2⟩

end Go.Proofs.Ytcgjppacnhmjlaa
