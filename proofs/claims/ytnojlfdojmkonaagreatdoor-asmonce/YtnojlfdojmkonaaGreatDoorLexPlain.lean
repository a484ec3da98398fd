/- The document's tokens as plain functions. -/
import Derived.Test.YtnojlfdojmkonaaGreatDoorRdPlain
import Derived.Test.YtnojlfdojmkonaaGreatDoorDigPlain
import Derived.Test.YtnojlfdojmkonaaGreatDoorTxtPlain
namespace Go.Proofs.YtnojlfdojmkonaaGreatDoor
open Go.RowKit

/-- a blank; a byte within a note; a byte within a word -/
def blankN (n : Nat) : Bool := decide (n = 32 ∨ n = 10 ∨ n = 9)
def noteN (n : Nat) : Bool := decide (n ≠ 10)
def wordN (n : Nat) : Bool := letterN n || digitN n

/-- how many bytes go on -/
def runL (p : Nat → Bool) : List UInt8 → Nat
  | [] => 0
  | b :: r => if p b.toNat then runL p r + 1 else 0

/-- two slashes come -/
def slashes : List UInt8 → Bool
  | a :: b :: _ => decide (a.toNat = 47 ∧ b.toNat = 47)
  | _ => false

/-- how many bytes are blanks, within a note or not -/
def skipL : Bool → List UInt8 → Nat
  | _, [] => 0
  | true, b :: r => skipL (noteN b.toNat) r + 1
  | false, b :: r => if slashes (b :: r) then skipL true r + 1 else if blankN b.toNat then skipL false r + 1 else 0

theorem runL_le (p : Nat → Bool) : ∀ l : List UInt8, runL p l ≤ l.length
  | [] => Nat.le_refl _
  | b :: r => by
    have := runL_le p r
    unfold runL
    split <;> simp <;> omega

theorem skipL_le : ∀ (f : Bool) (l : List UInt8), skipL f l ≤ l.length
  | _, [] => by simp [skipL]
  | true, b :: r => by
    have := skipL_le (noteN b.toNat) r
    simp [skipL]; omega
  | false, b :: r => by
    have h1 := skipL_le true r
    have h2 := skipL_le false r
    unfold skipL
    split
    · simp; omega
    · split <;> simp; omega

/-- the place behind -/
def runTo (p : Nat → Bool) (s : ByteArray) (k : Nat) : Nat := k + runL p (s.data.toList.drop k)
def skipTo (f : Bool) (s : ByteArray) (k : Nat) : Nat := k + skipL f (s.data.toList.drop k)

theorem runTo_le {p : Nat → Bool} {s : ByteArray} {k : Nat} (h : k ≤ s.size) : runTo p s k ≤ s.size := by
  have := runL_le p (s.data.toList.drop k)
  rw [List.length_drop, list_size] at this
  unfold runTo; omega
theorem runTo_ge (p : Nat → Bool) (s : ByteArray) (k : Nat) : k ≤ runTo p s k := by unfold runTo; omega
theorem skipTo_le {f : Bool} {s : ByteArray} {k : Nat} (h : k ≤ s.size) : skipTo f s k ≤ s.size := by
  have := skipL_le f (s.data.toList.drop k)
  rw [List.length_drop, list_size] at this
  unfold skipTo; omega
theorem skipTo_ge (f : Bool) (s : ByteArray) (k : Nat) : k ≤ skipTo f s k := by unfold skipTo; omega

theorem runTo_end {p : Nat → Bool} {s : ByteArray} {k : Nat} (h : s.size ≤ k) : runTo p s k = k := by
  unfold runTo; rw [drop_end s k h]; rfl
theorem runTo_on {p : Nat → Bool} {s : ByteArray} {k : Nat} (h : k < s.size) (hp : p s[k].toNat = true) : runTo p s k = runTo p s (k + 1) := by
  unfold runTo; rw [drop_byte s k h]; simp [runL, hp]; omega
theorem runTo_off {p : Nat → Bool} {s : ByteArray} {k : Nat} (h : k < s.size) (hp : p s[k].toNat = false) : runTo p s k = k := by
  unfold runTo; rw [drop_byte s k h]; simp [runL, hp]
theorem runTo_stop {p : Nat → Bool} {s : ByteArray} {k : Nat} (h : runTo p s k < s.size) : p (s[runTo p s k]'h).toNat = false := by
  have key : ∀ (m k : Nat), s.size - k ≤ m → k ≤ s.size → ∀ h : runTo p s k < s.size, p (s[runTo p s k]'h).toNat = false := by
    intro m
    induction m with
    | zero =>
      intro k hk hks h
      have := runTo_ge p s k
      omega
    | succ m ih =>
      intro k hk hks h
      by_cases hkl : k < s.size
      · cases hp : p s[k].toNat with
        | true =>
          have e := runTo_on hkl hp
          have h' : runTo p s (k + 1) < s.size := by rw [← e]; exact h
          have := ih (k + 1) (by omega) (by omega) h'
          simp only [e]; exact this
        | false =>
          have e := runTo_off hkl hp
          simp only [e]; exact hp
      · have := runTo_ge p s k
        omega
  by_cases hks : k ≤ s.size
  · exact key _ k (Nat.le_refl _) hks h
  · have := runTo_ge p s k
    omega

/-- over a run of blanks -/
theorem skipTo_blanks {s : ByteArray} : ∀ (m k : Nat), s.size - k ≤ m → skipTo false s k = skipTo false s (runTo blankN s k)
  | 0, k, hk => by
    rw [runTo_end (by omega)]
  | m + 1, k, hk => by
    by_cases hkl : k < s.size
    · cases hp : blankN s[k].toNat with
      | true =>
        rw [runTo_on hkl hp, ← skipTo_blanks m (k + 1) (by omega)]
        have hs : slashes (s[k] :: s.data.toList.drop (k + 1)) = false := by
          have : s[k].toNat ≠ 47 := by simp [blankN] at hp; omega
          cases s.data.toList.drop (k + 1) <;> simp [slashes, this]
        unfold skipTo
        rw [drop_byte s k hkl]
        simp [skipL, hs, hp]; omega
      | false => rw [runTo_off hkl hp]
    · rw [runTo_end (by omega)]

/-- over a note -/
theorem skipTo_note {s : ByteArray} : ∀ (m k : Nat), s.size - k ≤ m → skipTo true s k = skipTo false s (runTo noteN s k)
  | 0, k, hk => by
    rw [runTo_end (by omega)]; unfold skipTo; rw [drop_end s k (by omega)]; simp [skipL]
  | m + 1, k, hk => by
    by_cases hkl : k < s.size
    · cases hp : noteN s[k].toNat with
      | true =>
        rw [runTo_on hkl hp, ← skipTo_note m (k + 1) (by omega)]
        unfold skipTo
        rw [drop_byte s k hkl]
        simp [skipL, hp]; omega
      | false =>
        rw [runTo_off hkl hp]
        have h10 : s[k].toNat = 10 := by simpa [noteN] using hp
        have hs : slashes (s[k] :: s.data.toList.drop (k + 1)) = false := by
          cases s.data.toList.drop (k + 1) <;> simp [slashes, h10]
        unfold skipTo
        rw [drop_byte s k hkl]
        simp [skipL, hs, h10, blankN, noteN]
    · rw [runTo_end (by omega)]; unfold skipTo; rw [drop_end s k (by omega)]; simp [skipL]

theorem skipTo_slashes {s : ByteArray} {k : Nat} (h : slashes (s.data.toList.drop k) = true) : skipTo false s k = skipTo false s (runTo noteN s k) := by
  rw [← skipTo_note _ k (Nat.le_refl _)]
  have hkl : k < s.size := by
    rcases Nat.lt_or_ge k s.size with h1 | h1
    · exact h1
    · rw [drop_end s k h1] at h; simp [slashes] at h
  have h47 : s[k].toNat = 47 := by
    rw [drop_byte s k hkl] at h
    cases hd : s.data.toList.drop (k + 1) with
    | nil => rw [hd] at h; simp [slashes] at h
    | cons c r => rw [hd] at h; simp [slashes] at h; exact h.1
  unfold skipTo
  rw [drop_byte s k hkl] at h ⊢
  simp [skipL, h, h47, noteN]

theorem skipTo_off {s : ByteArray} {k : Nat} (h : slashes (s.data.toList.drop k) = false) (hb : ∀ h : k < s.size, blankN s[k].toNat = false) : skipTo false s k = k := by
  by_cases hkl : k < s.size
  · unfold skipTo
    rw [drop_byte s k hkl] at h ⊢
    simp [skipL, h, hb hkl]
  · unfold skipTo; rw [drop_end s k (by omega)]; simp [skipL]

/-- the signs, in the order in which they are tried -/
def sgnL : List (List UInt8) := [[60, 61], [62, 61], [61, 61], [33, 61], [38, 38], [124, 124], [40], [41], [123], [125], [91], [93], [44], [59], [58], [46], [43], [45], [42], [47], [37], [60], [62], [61], [33]]
/-- the keys -/
def keyL : List (List UInt8) := [[99, 111, 117, 110, 116], [100, 101, 108, 101, 116, 101], [101, 108, 115, 101], [102, 97, 108, 115, 101], [102, 110], [104, 97, 115], [105, 102], [107, 101, 121], [108, 101, 110], [108, 101, 116],
  [110, 117, 108, 108], [112, 114, 105, 110, 116], [112, 114, 111, 116, 111], [114, 101, 116, 117, 114, 110], [115, 101, 116, 112, 114, 111, 116, 111], [115, 116, 114], [116, 104, 105, 115], [116, 114, 117, 101], [119, 104, 105, 108, 101]]
def keyB (l : List UInt8) : Bool := keyL.contains l
/-- the first of some signs with which a text begins -/
def firstOf : List (List UInt8) → List UInt8 → List UInt8
  | [], _ => []
  | x :: r, l => if x.isPrefixOf l then x else firstOf r l
def signL (l : List UInt8) : List UInt8 := firstOf sgnL l

/-- a token -/
structure Tok where
  kind : Int
  text : ByteArray
  num : Int
  pl : Int
def Tok.zero : Tok := ⟨0, ⟨#[]⟩, 0, 0⟩
def Tok.cells (t : Tok) : List Value := [.int .i64 t.kind, .string t.text, .int .i64 t.num, .int .i64 t.pl]
def Tok.val (t : Tok) : Value := .agg #[.int .i64 t.kind, .string t.text, .int .i64 t.num, .int .i64 t.pl]

/-- what comes at a place: the token and the place behind it, or an error and its place -/
abbrev TokOut := Tok × Nat × Int
def wordOut (l : List UInt8) (k : Nat) : TokOut :=
  if keyB (l.take (runL wordN l)) then (⟨2, ⟨(l.take (runL wordN l)).toArray⟩, 0, k⟩, k + runL wordN l, 0)
  else if nameB (l.take (runL wordN l)) then (⟨1, ⟨(l.take (runL wordN l)).toArray⟩, 0, k⟩, k + runL wordN l, 0) else (Tok.zero, k, 11)
def numbOut (l : List UInt8) (k : Nat) : TokOut :=
  if (readOut (l.take (runL digitN l))).2 = 0 then (⟨3, ⟨(digs (readOut (l.take (runL digitN l))).1).toArray⟩, (readOut (l.take (runL digitN l))).1, k⟩, k + runL digitN l, 0)
  else (Tok.zero, k, (readOut (l.take (runL digitN l))).2)
def quoOut (l : List UInt8) (k : Nat) : TokOut :=
  if (takeOut l).2.2 = 0 then (if 256 < (takeOut l).1.length then (Tok.zero, k, 3) else (⟨4, ⟨(takeOut l).1.toArray⟩, 0, k⟩, k + (takeOut l).2.1, 0))
  else (Tok.zero, k + (takeOut l).2.1, (takeOut l).2.2)
def sgnOut (l : List UInt8) (k : Nat) : TokOut :=
  if signL l = [] then (Tok.zero, k, 11) else (⟨5, ⟨(signL l).toArray⟩, 0, k⟩, k + (signL l).length, 0)
def oneOut (l : List UInt8) (k : Nat) : TokOut :=
  match l with
  | [] => (Tok.zero, k, 11)
  | b :: r => if letterN b.toNat then wordOut (b :: r) k else if digitN b.toNat then numbOut (b :: r) k else if b.toNat = 34 then quoOut (b :: r) k else sgnOut (b :: r) k

/-- all tokens from a place on, behind those that are there -/
def tokGo (s : ByteArray) : Nat → Nat → List Tok → List Tok × Nat × Int
  | 0, _, _ => ([], 0, 0)
  | f + 1, k, acc =>
    if s.size ≤ k then (acc ++ [⟨6, ⟨#[]⟩, 0, s.size⟩], 0, 0)
    else if (oneOut (s.data.toList.drop k) k).2.2 ≠ 0 then ([], (oneOut (s.data.toList.drop k) k).2.1, (oneOut (s.data.toList.drop k) k).2.2)
    else if acc.length = 600 then ([], k, 5)
    else tokGo s f (skipTo false s (oneOut (s.data.toList.drop k) k).2.1) (acc ++ [(oneOut (s.data.toList.drop k) k).1])
def tokOut (s : ByteArray) : List Tok × Nat × Int := if 2000 < s.size then ([], 0, 3) else tokGo s (s.size + 1) (skipTo false s 0) []

/-- whether a token may come -/
def rightTok (t : Tok) : Bool :=
  if t.kind = 3 then decide (0 ≤ t.num) && (decide (t.num ≤ 4611686018427387903) && (t.text.data.toList == digs t.num))
  else if t.num = 0 then
    (if t.kind = 1 then nameB t.text.data.toList && !keyB t.text.data.toList
    else if t.kind = 2 then keyB t.text.data.toList
    else if t.kind = 4 then decide (t.text.size ≤ 256)
    else if t.kind = 5 then sgnL.contains t.text.data.toList
    else if t.kind = 6 then t.text.data.toList.isEmpty else false)
  else false
/-- a token as text; tokens as text -/
def tokText (t : Tok) : List UInt8 := if t.kind = 4 then quoted t.text.data.toList else t.text.data.toList
def printL (l : List Tok) : List UInt8 := l.flatMap fun t => tokText t ++ [32]

end Go.Proofs.YtnojlfdojmkonaaGreatDoor
