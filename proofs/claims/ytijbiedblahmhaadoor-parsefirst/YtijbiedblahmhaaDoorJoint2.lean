/- The document's tokens as plain functions. What all our texts stand on: hidden facts, and chains of calls that leave old memory alone. Keys. Nodes as plain data, and what the document says of them as plain functions. -/
import Derived.Test.YtijbiedblahmhaaDoorJoint1
import Derived.WalkKit
import Derived.WalkLawsBesides
import Derived.WalkSpells
import Derived.Outline
import Derived.Below
import Derived.Test.YtijbiedblahmhaaDoorProg
import Derived.Lib.Strings
import Derived.BigQuiet
import Derived.WalkSmall
namespace Go.Proofs.YtijbiedblahmhaaDoor
open Go.RowKit

/-- a blank; a byte within a note; a byte within a word -/
def blankN (n : Nat) : Bool := decide (n = 32 ∨ n = 10 ∨ n = 9)
def noteN (n : Nat) : Bool := decide (n ≠ 10)
def wordN (n : Nat) : Bool := letterN n || digitN n

/-- how many bytes go on -/
def runL (p : Nat → Bool) : List UInt8 → Nat
  | [] => 0
  | b :: r => if p b.toNat then runL p r + 1 else 0

/-- two slashes come -/
def slashes : List UInt8 → Bool
  | a :: b :: _ => decide (a.toNat = 47 ∧ b.toNat = 47)
  | _ => false

/-- how many bytes are blanks, within a note or not -/
def skipL : Bool → List UInt8 → Nat
  | _, [] => 0
  | true, b :: r => skipL (noteN b.toNat) r + 1
  | false, b :: r => if slashes (b :: r) then skipL true r + 1 else if blankN b.toNat then skipL false r + 1 else 0

theorem runL_le (p : Nat → Bool) : ∀ l : List UInt8, runL p l ≤ l.length
  | [] => Nat.le_refl _
  | b :: r => by
    have := runL_le p r
    unfold runL
    split <;> simp <;> omega

theorem skipL_le : ∀ (f : Bool) (l : List UInt8), skipL f l ≤ l.length
  | _, [] => by simp [skipL]
  | true, b :: r => by
    have := skipL_le (noteN b.toNat) r
    simp [skipL]; omega
  | false, b :: r => by
    have h1 := skipL_le true r
    have h2 := skipL_le false r
    unfold skipL
    split
    · simp; omega
    · split <;> simp; omega

/-- the place behind -/
def runTo (p : Nat → Bool) (s : ByteArray) (k : Nat) : Nat := k + runL p (s.data.toList.drop k)
def skipTo (f : Bool) (s : ByteArray) (k : Nat) : Nat := k + skipL f (s.data.toList.drop k)

theorem runTo_le {p : Nat → Bool} {s : ByteArray} {k : Nat} (h : k ≤ s.size) : runTo p s k ≤ s.size := by
  have := runL_le p (s.data.toList.drop k)
  rw [List.length_drop, list_size] at this
  unfold runTo; omega
theorem runTo_ge (p : Nat → Bool) (s : ByteArray) (k : Nat) : k ≤ runTo p s k := by unfold runTo; omega
theorem skipTo_le {f : Bool} {s : ByteArray} {k : Nat} (h : k ≤ s.size) : skipTo f s k ≤ s.size := by
  have := skipL_le f (s.data.toList.drop k)
  rw [List.length_drop, list_size] at this
  unfold skipTo; omega
theorem skipTo_ge (f : Bool) (s : ByteArray) (k : Nat) : k ≤ skipTo f s k := by unfold skipTo; omega

theorem runTo_end {p : Nat → Bool} {s : ByteArray} {k : Nat} (h : s.size ≤ k) : runTo p s k = k := by
  unfold runTo; rw [drop_end s k h]; rfl
theorem runTo_on {p : Nat → Bool} {s : ByteArray} {k : Nat} (h : k < s.size) (hp : p s[k].toNat = true) : runTo p s k = runTo p s (k + 1) := by
  unfold runTo; rw [drop_byte s k h]; simp [runL, hp]; omega
theorem runTo_off {p : Nat → Bool} {s : ByteArray} {k : Nat} (h : k < s.size) (hp : p s[k].toNat = false) : runTo p s k = k := by
  unfold runTo; rw [drop_byte s k h]; simp [runL, hp]
theorem runTo_stop {p : Nat → Bool} {s : ByteArray} {k : Nat} (h : runTo p s k < s.size) : p (s[runTo p s k]'h).toNat = false := by
  have key : ∀ (m k : Nat), s.size - k ≤ m → k ≤ s.size → ∀ h : runTo p s k < s.size, p (s[runTo p s k]'h).toNat = false := by
    intro m
    induction m with
    | zero =>
      intro k hk hks h
      have := runTo_ge p s k
      omega
    | succ m ih =>
      intro k hk hks h
      by_cases hkl : k < s.size
      · cases hp : p s[k].toNat with
        | true =>
          have e := runTo_on hkl hp
          have h' : runTo p s (k + 1) < s.size := by rw [← e]; exact h
          have := ih (k + 1) (by omega) (by omega) h'
          simp only [e]; exact this
        | false =>
          have e := runTo_off hkl hp
          simp only [e]; exact hp
      · have := runTo_ge p s k
        omega
  by_cases hks : k ≤ s.size
  · exact key _ k (Nat.le_refl _) hks h
  · have := runTo_ge p s k
    omega

/-- over a run of blanks -/
theorem skipTo_blanks {s : ByteArray} : ∀ (m k : Nat), s.size - k ≤ m → skipTo false s k = skipTo false s (runTo blankN s k)
  | 0, k, hk => by
    rw [runTo_end (by omega)]
  | m + 1, k, hk => by
    by_cases hkl : k < s.size
    · cases hp : blankN s[k].toNat with
      | true =>
        rw [runTo_on hkl hp, ← skipTo_blanks m (k + 1) (by omega)]
        have hs : slashes (s[k] :: s.data.toList.drop (k + 1)) = false := by
          have : s[k].toNat ≠ 47 := by simp [blankN] at hp; omega
          cases s.data.toList.drop (k + 1) <;> simp [slashes, this]
        unfold skipTo
        rw [drop_byte s k hkl]
        simp [skipL, hs, hp]; omega
      | false => rw [runTo_off hkl hp]
    · rw [runTo_end (by omega)]

/-- over a note -/
theorem skipTo_note {s : ByteArray} : ∀ (m k : Nat), s.size - k ≤ m → skipTo true s k = skipTo false s (runTo noteN s k)
  | 0, k, hk => by
    rw [runTo_end (by omega)]; unfold skipTo; rw [drop_end s k (by omega)]; simp [skipL]
  | m + 1, k, hk => by
    by_cases hkl : k < s.size
    · cases hp : noteN s[k].toNat with
      | true =>
        rw [runTo_on hkl hp, ← skipTo_note m (k + 1) (by omega)]
        unfold skipTo
        rw [drop_byte s k hkl]
        simp [skipL, hp]; omega
      | false =>
        rw [runTo_off hkl hp]
        have h10 : s[k].toNat = 10 := by simpa [noteN] using hp
        have hs : slashes (s[k] :: s.data.toList.drop (k + 1)) = false := by
          cases s.data.toList.drop (k + 1) <;> simp [slashes, h10]
        unfold skipTo
        rw [drop_byte s k hkl]
        simp [skipL, hs, h10, blankN, noteN]
    · rw [runTo_end (by omega)]; unfold skipTo; rw [drop_end s k (by omega)]; simp [skipL]

theorem skipTo_slashes {s : ByteArray} {k : Nat} (h : slashes (s.data.toList.drop k) = true) : skipTo false s k = skipTo false s (runTo noteN s k) := by
  rw [← skipTo_note _ k (Nat.le_refl _)]
  have hkl : k < s.size := by
    rcases Nat.lt_or_ge k s.size with h1 | h1
    · exact h1
    · rw [drop_end s k h1] at h; simp [slashes] at h
  have h47 : s[k].toNat = 47 := by
    rw [drop_byte s k hkl] at h
    cases hd : s.data.toList.drop (k + 1) with
    | nil => rw [hd] at h; simp [slashes] at h
    | cons c r => rw [hd] at h; simp [slashes] at h; exact h.1
  unfold skipTo
  rw [drop_byte s k hkl] at h ⊢
  simp [skipL, h, h47, noteN]

theorem skipTo_off {s : ByteArray} {k : Nat} (h : slashes (s.data.toList.drop k) = false) (hb : ∀ h : k < s.size, blankN s[k].toNat = false) : skipTo false s k = k := by
  by_cases hkl : k < s.size
  · unfold skipTo
    rw [drop_byte s k hkl] at h ⊢
    simp [skipL, h, hb hkl]
  · unfold skipTo; rw [drop_end s k (by omega)]; simp [skipL]

/-- the signs, in the order in which they are tried -/
def sgnL : List (List UInt8) := [[60, 61], [62, 61], [61, 61], [33, 61], [38, 38], [124, 124], [40], [41], [123], [125], [91], [93], [44], [59], [58], [46], [43], [45], [42], [47], [37], [60], [62], [61], [33]]
/-- the keys -/
def keyL : List (List UInt8) := [[99, 111, 117, 110, 116], [100, 101, 108, 101, 116, 101], [101, 108, 115, 101], [102, 97, 108, 115, 101], [102, 110], [104, 97, 115], [105, 102], [107, 101, 121], [108, 101, 110], [108, 101, 116],
  [110, 117, 108, 108], [112, 114, 105, 110, 116], [112, 114, 111, 116, 111], [114, 101, 116, 117, 114, 110], [115, 101, 116, 112, 114, 111, 116, 111], [115, 116, 114], [116, 104, 105, 115], [116, 114, 117, 101], [119, 104, 105, 108, 101]]
def keyB (l : List UInt8) : Bool := keyL.contains l
/-- the first of some signs with which a text begins -/
def firstOf : List (List UInt8) → List UInt8 → List UInt8
  | [], _ => []
  | x :: r, l => if x.isPrefixOf l then x else firstOf r l
def signL (l : List UInt8) : List UInt8 := firstOf sgnL l

/-- a token -/
structure Tok where
  kind : Int
  text : ByteArray
  num : Int
  pl : Int
def Tok.zero : Tok := ⟨0, ⟨#[]⟩, 0, 0⟩
def Tok.cells (t : Tok) : List Value := [.int .i64 t.kind, .string t.text, .int .i64 t.num, .int .i64 t.pl]
def Tok.val (t : Tok) : Value := .agg #[.int .i64 t.kind, .string t.text, .int .i64 t.num, .int .i64 t.pl]

/-- what comes at a place: the token and the place behind it, or an error and its place -/
abbrev TokOut := Tok × Nat × Int
def wordOut (l : List UInt8) (k : Nat) : TokOut :=
  if keyB (l.take (runL wordN l)) then (⟨2, ⟨(l.take (runL wordN l)).toArray⟩, 0, k⟩, k + runL wordN l, 0)
  else if nameB (l.take (runL wordN l)) then (⟨1, ⟨(l.take (runL wordN l)).toArray⟩, 0, k⟩, k + runL wordN l, 0) else (Tok.zero, k, 11)
def numbOut (l : List UInt8) (k : Nat) : TokOut :=
  if (readOut (l.take (runL digitN l))).2 = 0 then (⟨3, ⟨(digs (readOut (l.take (runL digitN l))).1).toArray⟩, (readOut (l.take (runL digitN l))).1, k⟩, k + runL digitN l, 0)
  else (Tok.zero, k, (readOut (l.take (runL digitN l))).2)
def quoOut (l : List UInt8) (k : Nat) : TokOut :=
  if (takeOut l).2.2 = 0 then (if 256 < (takeOut l).1.length then (Tok.zero, k, 3) else (⟨4, ⟨(takeOut l).1.toArray⟩, 0, k⟩, k + (takeOut l).2.1, 0))
  else (Tok.zero, k + (takeOut l).2.1, (takeOut l).2.2)
def sgnOut (l : List UInt8) (k : Nat) : TokOut :=
  if signL l = [] then (Tok.zero, k, 11) else (⟨5, ⟨(signL l).toArray⟩, 0, k⟩, k + (signL l).length, 0)
def oneOut (l : List UInt8) (k : Nat) : TokOut :=
  match l with
  | [] => (Tok.zero, k, 11)
  | b :: r => if letterN b.toNat then wordOut (b :: r) k else if digitN b.toNat then numbOut (b :: r) k else if b.toNat = 34 then quoOut (b :: r) k else sgnOut (b :: r) k

/-- all tokens from a place on, behind those that are there -/
def tokGo (s : ByteArray) : Nat → Nat → List Tok → List Tok × Nat × Int
  | 0, _, _ => ([], 0, 0)
  | f + 1, k, acc =>
    if s.size ≤ k then (acc ++ [⟨6, ⟨#[]⟩, 0, s.size⟩], 0, 0)
    else if (oneOut (s.data.toList.drop k) k).2.2 ≠ 0 then ([], (oneOut (s.data.toList.drop k) k).2.1, (oneOut (s.data.toList.drop k) k).2.2)
    else if acc.length = 600 then ([], k, 5)
    else tokGo s f (skipTo false s (oneOut (s.data.toList.drop k) k).2.1) (acc ++ [(oneOut (s.data.toList.drop k) k).1])
def tokOut (s : ByteArray) : List Tok × Nat × Int := if 2000 < s.size then ([], 0, 3) else tokGo s (s.size + 1) (skipTo false s 0) []

/-- whether a token may come -/
def rightTok (t : Tok) : Bool :=
  if t.kind = 3 then decide (0 ≤ t.num) && (decide (t.num ≤ 4611686018427387903) && (t.text.data.toList == digs t.num))
  else if t.num = 0 then
    (if t.kind = 1 then nameB t.text.data.toList && !keyB t.text.data.toList
    else if t.kind = 2 then keyB t.text.data.toList
    else if t.kind = 4 then decide (t.text.size ≤ 256)
    else if t.kind = 5 then sgnL.contains t.text.data.toList
    else if t.kind = 6 then t.text.data.toList.isEmpty else false)
  else false
/-- a token as text; tokens as text -/
def tokText (t : Tok) : List UInt8 := if t.kind = 4 then quoted t.text.data.toList else t.text.data.toList
def printL (l : List Tok) : List UInt8 := l.flatMap fun t => tokText t ++ [32]

end Go.Proofs.YtijbiedblahmhaaDoor

namespace Go.Proofs.YtijbiedblahmhaaDoor
open Go.RowKit

theorem hid {p : Prop} (h : p) : Hid p := h

theorem below_on {a b c : World} (h : Below a.heap.size a b) (k : Below b.heap.size b c) : Below a.heap.size a c := h.trans (k.mono h.size)
theorem below_in {B : Nat} {a b c : World} (h : Below B a b) (hB : B ≤ a.heap.size) (k : Below b.heap.size b c) : Below B a c := h.trans (k.mono (Nat.le_trans hB h.size))

end Go.Proofs.YtijbiedblahmhaaDoor

namespace Go.Proofs.YtijbiedblahmhaaDoor
open Go.RowKit

theorem lit_eq {s : ByteArray} {l : List UInt8} (h : (s.toList == l) = true) : s.data.toList = l := by
  rw [beq_iff_eq, Lib.toList_data] at h
  exact h
theorem lit_ne {s : ByteArray} {l : List UInt8} (h : (s.toList == l) = false) : s.data.toList ≠ l := by
  rw [beq_eq_false_iff_ne, Lib.toList_data] at h
  exact h
theorem lit_beq (s : ByteArray) (l : List UInt8) : (l == s.toList) = (l == s.data.toList) := by rw [Lib.toList_data]
/-- is a text one of a list? -/
def inB (L : List (List UInt8)) (l : List UInt8) : Bool := L.contains l

set_option maxHeartbeats 1600000 in
theorem iskey_calls (s : ByteArray) (w : World) :
    Calls Tryd.prog 37 #[.string s] w fun e w' => e = .returned (.bool (keyB s.data.toList)) ∧ w = w' := by
  cases h0 : (s.toList == ([99, 111, 117, 110, 116] : List UInt8)) with
  | true =>
    have H := hid (show keyB s.data.toList = true by rw [lit_eq (l := [99, 111, 117, 110, 116]) h0]; rfl)
    go_enter Tryd.func37, Tryd.ntmps37
    go_wp2
    go_ret
    exact ⟨by rw [H.out]; rfl, rfl⟩
  | false =>
  cases h1 : (s.toList == ([100, 101, 108, 101, 116, 101] : List UInt8)) with
  | true =>
    have H := hid (show keyB s.data.toList = true by rw [lit_eq (l := [100, 101, 108, 101, 116, 101]) h1]; rfl)
    go_enter Tryd.func37, Tryd.ntmps37
    go_wp2
    go_ret
    exact ⟨by rw [H.out]; rfl, rfl⟩
  | false =>
  cases h2 : (s.toList == ([101, 108, 115, 101] : List UInt8)) with
  | true =>
    have H := hid (show keyB s.data.toList = true by rw [lit_eq (l := [101, 108, 115, 101]) h2]; rfl)
    go_enter Tryd.func37, Tryd.ntmps37
    go_wp2
    go_ret
    exact ⟨by rw [H.out]; rfl, rfl⟩
  | false =>
  cases h3 : (s.toList == ([102, 97, 108, 115, 101] : List UInt8)) with
  | true =>
    have H := hid (show keyB s.data.toList = true by rw [lit_eq (l := [102, 97, 108, 115, 101]) h3]; rfl)
    go_enter Tryd.func37, Tryd.ntmps37
    go_wp2
    go_ret
    exact ⟨by rw [H.out]; rfl, rfl⟩
  | false =>
  cases h4 : (s.toList == ([102, 110] : List UInt8)) with
  | true =>
    have H := hid (show keyB s.data.toList = true by rw [lit_eq (l := [102, 110]) h4]; rfl)
    go_enter Tryd.func37, Tryd.ntmps37
    go_wp2
    go_ret
    exact ⟨by rw [H.out]; rfl, rfl⟩
  | false =>
  cases h5 : (s.toList == ([104, 97, 115] : List UInt8)) with
  | true =>
    have H := hid (show keyB s.data.toList = true by rw [lit_eq (l := [104, 97, 115]) h5]; rfl)
    go_enter Tryd.func37, Tryd.ntmps37
    go_wp2
    go_ret
    exact ⟨by rw [H.out]; rfl, rfl⟩
  | false =>
  cases h6 : (s.toList == ([105, 102] : List UInt8)) with
  | true =>
    have H := hid (show keyB s.data.toList = true by rw [lit_eq (l := [105, 102]) h6]; rfl)
    go_enter Tryd.func37, Tryd.ntmps37
    go_wp2
    go_ret
    exact ⟨by rw [H.out]; rfl, rfl⟩
  | false =>
  cases h7 : (s.toList == ([107, 101, 121] : List UInt8)) with
  | true =>
    have H := hid (show keyB s.data.toList = true by rw [lit_eq (l := [107, 101, 121]) h7]; rfl)
    go_enter Tryd.func37, Tryd.ntmps37
    go_wp2
    go_ret
    exact ⟨by rw [H.out]; rfl, rfl⟩
  | false =>
  cases h8 : (s.toList == ([108, 101, 110] : List UInt8)) with
  | true =>
    have H := hid (show keyB s.data.toList = true by rw [lit_eq (l := [108, 101, 110]) h8]; rfl)
    go_enter Tryd.func37, Tryd.ntmps37
    go_wp2
    go_ret
    exact ⟨by rw [H.out]; rfl, rfl⟩
  | false =>
  cases h9 : (s.toList == ([108, 101, 116] : List UInt8)) with
  | true =>
    have H := hid (show keyB s.data.toList = true by rw [lit_eq (l := [108, 101, 116]) h9]; rfl)
    go_enter Tryd.func37, Tryd.ntmps37
    go_wp2
    go_ret
    exact ⟨by rw [H.out]; rfl, rfl⟩
  | false =>
  cases h10 : (s.toList == ([110, 117, 108, 108] : List UInt8)) with
  | true =>
    have H := hid (show keyB s.data.toList = true by rw [lit_eq (l := [110, 117, 108, 108]) h10]; rfl)
    go_enter Tryd.func37, Tryd.ntmps37
    go_wp2
    go_ret
    exact ⟨by rw [H.out]; rfl, rfl⟩
  | false =>
  cases h11 : (s.toList == ([112, 114, 105, 110, 116] : List UInt8)) with
  | true =>
    have H := hid (show keyB s.data.toList = true by rw [lit_eq (l := [112, 114, 105, 110, 116]) h11]; rfl)
    go_enter Tryd.func37, Tryd.ntmps37
    go_wp2
    go_ret
    exact ⟨by rw [H.out]; rfl, rfl⟩
  | false =>
  cases h12 : (s.toList == ([112, 114, 111, 116, 111] : List UInt8)) with
  | true =>
    have H := hid (show keyB s.data.toList = true by rw [lit_eq (l := [112, 114, 111, 116, 111]) h12]; rfl)
    go_enter Tryd.func37, Tryd.ntmps37
    go_wp2
    go_ret
    exact ⟨by rw [H.out]; rfl, rfl⟩
  | false =>
  cases h13 : (s.toList == ([114, 101, 116, 117, 114, 110] : List UInt8)) with
  | true =>
    have H := hid (show keyB s.data.toList = true by rw [lit_eq (l := [114, 101, 116, 117, 114, 110]) h13]; rfl)
    go_enter Tryd.func37, Tryd.ntmps37
    go_wp2
    go_ret
    exact ⟨by rw [H.out]; rfl, rfl⟩
  | false =>
  cases h14 : (s.toList == ([115, 101, 116, 112, 114, 111, 116, 111] : List UInt8)) with
  | true =>
    have H := hid (show keyB s.data.toList = true by rw [lit_eq (l := [115, 101, 116, 112, 114, 111, 116, 111]) h14]; rfl)
    go_enter Tryd.func37, Tryd.ntmps37
    go_wp2
    go_ret
    exact ⟨by rw [H.out]; rfl, rfl⟩
  | false =>
  cases h15 : (s.toList == ([115, 116, 114] : List UInt8)) with
  | true =>
    have H := hid (show keyB s.data.toList = true by rw [lit_eq (l := [115, 116, 114]) h15]; rfl)
    go_enter Tryd.func37, Tryd.ntmps37
    go_wp2
    go_ret
    exact ⟨by rw [H.out]; rfl, rfl⟩
  | false =>
  cases h16 : (s.toList == ([116, 104, 105, 115] : List UInt8)) with
  | true =>
    have H := hid (show keyB s.data.toList = true by rw [lit_eq (l := [116, 104, 105, 115]) h16]; rfl)
    go_enter Tryd.func37, Tryd.ntmps37
    go_wp2
    go_ret
    exact ⟨by rw [H.out]; rfl, rfl⟩
  | false =>
  cases h17 : (s.toList == ([116, 114, 117, 101] : List UInt8)) with
  | true =>
    have H := hid (show keyB s.data.toList = true by rw [lit_eq (l := [116, 114, 117, 101]) h17]; rfl)
    go_enter Tryd.func37, Tryd.ntmps37
    go_wp2
    go_ret
    exact ⟨by rw [H.out]; rfl, rfl⟩
  | false =>
  cases h18 : (s.toList == ([119, 104, 105, 108, 101] : List UInt8)) with
  | true =>
    have H := hid (show keyB s.data.toList = true by rw [lit_eq (l := [119, 104, 105, 108, 101]) h18]; rfl)
    go_enter Tryd.func37, Tryd.ntmps37
    go_wp2
    go_ret
    exact ⟨by rw [H.out]; rfl, rfl⟩
  | false =>
  have H := hid (show keyB s.data.toList = false by
    simp only [keyB, keyL, List.contains_cons, List.contains_nil, Bool.or_eq_false_iff, beq_eq_false_iff_ne, and_true]
    exact ⟨lit_ne (l := [99, 111, 117, 110, 116]) h0, lit_ne (l := [100, 101, 108, 101, 116, 101]) h1, lit_ne (l := [101, 108, 115, 101]) h2, lit_ne (l := [102, 97, 108, 115, 101]) h3, lit_ne (l := [102, 110]) h4, lit_ne (l := [104, 97, 115]) h5, lit_ne (l := [105, 102]) h6, lit_ne (l := [107, 101, 121]) h7, lit_ne (l := [108, 101, 110]) h8, lit_ne (l := [108, 101, 116]) h9, lit_ne (l := [110, 117, 108, 108]) h10, lit_ne (l := [112, 114, 105, 110, 116]) h11, lit_ne (l := [112, 114, 111, 116, 111]) h12, lit_ne (l := [114, 101, 116, 117, 114, 110]) h13, lit_ne (l := [115, 101, 116, 112, 114, 111, 116, 111]) h14, lit_ne (l := [115, 116, 114]) h15, lit_ne (l := [116, 104, 105, 115]) h16, lit_ne (l := [116, 114, 117, 101]) h17, lit_ne (l := [119, 104, 105, 108, 101]) h18⟩)
  go_enter Tryd.func37, Tryd.ntmps37
  go_wp2
  go_ret
  exact ⟨by rw [H.out]; rfl, rfl⟩

/-- a list of texts in memory -/
def Texts (g : Nat) (L : List (List UInt8)) (w : World) : Prop := ∀ (i : Nat) (h : i < L.length), w.cell? ⟨g, i, none⟩ = some (.string ⟨(L[i]).toArray⟩)
def textCells (L : List (List UInt8)) : Array Value := (L.map fun l => Value.string ⟨l.toArray⟩).toArray
theorem texts_new (w : World) (L : List (List UInt8)) (t : TypeId) : Texts w.heap.size L (w.alloc (.cells (textCells L) t)) := by
  intro i h
  rw [World.cell?_alloc_new]
  simp [textCells, h]

end Go.Proofs.YtijbiedblahmhaaDoor

namespace Go.Proofs.YtijbiedblahmhaaDoor
open Go.RowKit

/-- a node: kind, sign, number, text, names, kids, place -/
inductive Nd where
  | mk (kind op num : Int) (str : ByteArray) (names : List ByteArray) (kids : List Nd) (pl : Int) : Nd

def Nd.kind : Nd → Int | .mk k _ _ _ _ _ _ => k
def Nd.op : Nd → Int | .mk _ o _ _ _ _ _ => o
def Nd.num : Nd → Int | .mk _ _ n _ _ _ _ => n
def Nd.str : Nd → ByteArray | .mk _ _ _ s _ _ _ => s
def Nd.names : Nd → List ByteArray | .mk _ _ _ _ ns _ _ => ns
def Nd.kids : Nd → List Nd | .mk _ _ _ _ _ ks _ => ks
def Nd.pl : Nd → Int | .mk _ _ _ _ _ _ p => p

mutual
theorem Nd.ind {P : Nd → Prop} (h : ∀ k o n s ns ks p, (∀ x ∈ ks, P x) → P (.mk k o n s ns ks p)) : ∀ t, P t
  | .mk k o n s ns ks p => h k o n s ns ks p (Nd.indL h ks)
theorem Nd.indL {P : Nd → Prop} (h : ∀ k o n s ns ks p, (∀ x ∈ ks, P x) → P (.mk k o n s ns ks p)) : ∀ (ks : List Nd) (x : Nd), x ∈ ks → P x
  | [], x, hx => by cases hx
  | k :: ks, x, hx => by
    rcases List.mem_cons.1 hx with e | hx
    · rw [e]; exact Nd.ind h k
    · exact Nd.indL h ks x hx
end

/-! how high, and how many -/
mutual
def highN : Nd → Nat
  | .mk _ _ _ _ _ ks _ => highL ks + 1
def highL : List Nd → Nat
  | [] => 0
  | k :: ks => max (highN k) (highL ks)
end
mutual
def countN : Nd → Nat
  | .mk _ _ _ _ _ ks _ => countL ks + 1
def countL : List Nd → Nat
  | [] => 0
  | k :: ks => countN k + countL ks
end

theorem highL_snoc (l : List Nd) (x : Nd) : highL (l ++ [x]) = max (highL l) (highN x) := by
  induction l with
  | nil => simp [highL]
  | cons k ks ih => simp only [List.cons_append, highL, ih]; omega
theorem countL_snoc (l : List Nd) (x : Nd) : countL (l ++ [x]) = countL l + countN x := by
  induction l with
  | nil => simp [countL]
  | cons k ks ih => simp only [List.cons_append, countL, ih]; omega
theorem countL_append (l m : List Nd) : countL (l ++ m) = countL l + countL m := by
  induction l with
  | nil => simp [countL]
  | cons k ks ih => simp only [List.cons_append, countL, ih]; omega
theorem countN_pos (t : Nd) : 1 ≤ countN t := by cases t; simp [countN]
theorem highN_pos (t : Nd) : 1 ≤ highN t := by cases t; simp [highN]
theorem count_mem {x : Nd} : ∀ {l : List Nd}, x ∈ l → countN x ≤ countL l
  | k :: ks, h => by
    rcases List.mem_cons.1 h with e | h
    · rw [e]; simp [countL]
    · have := count_mem h; simp [countL]; omega
theorem high_mem {x : Nd} : ∀ {l : List Nd}, x ∈ l → highN x ≤ highL l
  | k :: ks, h => by
    rcases List.mem_cons.1 h with e | h
    · rw [e]; simp [highL]; omega
    · have := high_mem h; simp [highL]; omega
theorem length_count : ∀ l : List Nd, l.length ≤ countL l
  | [] => Nat.le_refl _
  | k :: ks => by have := length_count ks; have := countN_pos k; simp [countL]; omega
theorem countL_take (l : List Nd) (i : Nat) : countL (l.take i) ≤ countL l := by
  have : countL (l.take i ++ l.drop i) = countL (l.take i) + countL (l.drop i) := countL_append _ _
  rw [List.take_append_drop] at this
  omega
theorem high_le_count (t : Nd) : highN t ≤ countN t := by
  refine Nd.ind (P := fun t => highN t ≤ countN t) ?_ t
  intro k o n s ns ks p ih
  simp only [highN, countN]
  have : highL ks ≤ countL ks := by
    clear k o n s ns p
    induction ks with
    | nil => simp [highL]
    | cons x xs ih2 =>
      have h1 := ih x (by simp)
      have h2 := ih2 (fun y hy => ih y (by simp [hy]))
      simp [highL, countL]; omega
  omega

theorem highL_count : ∀ l : List Nd, highL l ≤ countL l
  | [] => Nat.le_refl _
  | k :: ks => by have := highL_count ks; have := high_le_count k; simp [highL, countL]; omega
theorem highL_append (l m : List Nd) : highL (l ++ m) = max (highL l) (highL m) := by
  induction l with
  | nil => simp [highL]
  | cons k ks ih => simp only [List.cons_append, highL, ih]; omega
theorem highL_take (l : List Nd) (i : Nat) : highL (l.take i) ≤ highL l := by
  have : highL (l.take i ++ l.drop i) = max (highL (l.take i)) (highL (l.drop i)) := highL_append _ _
  rw [List.take_append_drop] at this
  omega

/-! whether two are alike -/
def namesB (ns ns' : List ByteArray) : Bool := ns.map (·.data.toList) == ns'.map (·.data.toList)
/-- their own fields, and how many kids there are -/
def alikeB (k o n : Int) (s : ByteArray) (ns : List ByteArray) (c : Nat) (k' o' n' : Int) (s' : ByteArray) (ns' : List ByteArray) (c' : Nat) : Bool :=
  (k == k') && ((o == o') && ((n == n') && ((s.data.toList == s'.data.toList) && (namesB ns ns' && (c == c')))))
mutual
def sameN : Nd → Nd → Bool
  | .mk k o n s ns ks _, .mk k' o' n' s' ns' ks' _ => (k == k') && ((o == o') && ((n == n') && ((s.data.toList == s'.data.toList) && (namesB ns ns' && sameL ks ks'))))
def sameL : List Nd → List Nd → Bool
  | [], [] => true
  | a :: as', b :: bs => sameN a b && sameL as' bs
  | _, _ => false
end

theorem sameL_length : ∀ (l m : List Nd), sameL l m = true → l.length = m.length
  | [], [], _ => rfl
  | a :: l, b :: m, h => by
    rw [sameL, Bool.and_eq_true] at h
    have := sameL_length l m h.2
    simp [this]
  | [], b :: m, h => by simp [sameL] at h
  | a :: l, [], h => by simp [sameL] at h
theorem sameL_all : ∀ (l m : List Nd), l.length = m.length → (∀ (i : Nat) (h : i < l.length) (h' : i < m.length), sameN l[i] m[i] = true) → sameL l m = true
  | [], [], _, _ => by rw [sameL]
  | a :: l, b :: m, hl, h => by
    rw [sameL, Bool.and_eq_true]
    exact ⟨h 0 (by simp) (by simp), sameL_all l m (by simpa using hl) (fun i h1 h2 => h (i + 1) (by simpa using h1) (by simpa using h2))⟩
theorem sameL_not : ∀ (l m : List Nd) (i : Nat) (h : i < l.length) (h' : i < m.length), sameN l[i] m[i] = false → sameL l m = false
  | a :: l, b :: m, 0, _, _, h => by rw [sameL, Bool.and_eq_false_iff]; exact .inl h
  | a :: l, b :: m, i + 1, h1, h2, h => by
    rw [sameL, Bool.and_eq_false_iff]
    exact .inr (sameL_not l m i (by simpa using h1) (by simpa using h2) h)
theorem sameL_short (l m : List Nd) (h : l.length ≠ m.length) : sameL l m = false := by
  cases hq : sameL l m with
  | false => rfl
  | true => exact absurd (sameL_length l m hq) h
theorem sameN_mk (k o n : Int) (s : ByteArray) (ns : List ByteArray) (ks : List Nd) (p k' o' n' : Int) (s' : ByteArray) (ns' : List ByteArray) (ks' : List Nd) (p' : Int) :
    sameN (.mk k o n s ns ks p) (.mk k' o' n' s' ns' ks' p') = (alikeB k o n s ns ks.length k' o' n' s' ns' ks'.length && sameL ks ks') := by
  rw [sameN]
  unfold alikeB
  cases hq : sameL ks ks' with
  | false => simp
  | true => simp [sameL_length _ _ hq]

theorem names_short {l m : List ByteArray} (h : l.length ≠ m.length) : namesB l m = false := by
  unfold namesB
  rw [beq_eq_false_iff_ne]
  intro e
  exact h (by simpa using congrArg List.length e)
theorem names_all {l m : List ByteArray} (hl : l.length = m.length) (h : ∀ (i : Nat) (h : i < l.length) (h' : i < m.length), l[i].data.toList = m[i].data.toList) : namesB l m = true := by
  unfold namesB
  rw [beq_iff_eq]
  refine List.ext_getElem (by simpa using hl) ?_
  intro i h1 h2
  simpa using h i (by simpa using h1) (by simpa using h2)
theorem names_not {l m : List ByteArray} {i : Nat} (h : i < l.length) (h' : i < m.length) (hn : l[i].data.toList ≠ m[i].data.toList) : namesB l m = false := by
  unfold namesB
  rw [beq_eq_false_iff_ne]
  intro e
  have : (l.map (·.data.toList))[i]? = (m.map (·.data.toList))[i]? := by rw [e]
  rw [List.getElem?_eq_getElem (by simpa using h), List.getElem?_eq_getElem (by simpa using h')] at this
  exact hn (by simpa using this)

mutual
theorem sameN_refl : ∀ t : Nd, sameN t t = true
  | .mk k o n s ns ks p => by
    rw [sameN]
    simp [sameL_refl ks, namesB]
theorem sameL_refl : ∀ l : List Nd, sameL l l = true
  | [] => by rw [sameL]
  | a :: l => by rw [sameL, sameN_refl a, sameL_refl l]; rfl
end
theorem sameN_place (k o n : Int) (s : ByteArray) (ns : List ByteArray) (ks : List Nd) (p p' : Int) : sameN (.mk k o n s ns ks p) (.mk k o n s ns ks p') = true := by
  rw [sameN, sameL_refl]
  simp [namesB]

end Go.Proofs.YtijbiedblahmhaaDoor
