/- What Read answers, as a plain function. Decimal digits of a whole number: no program in sight. The document's tokens as plain functions. -/
import Derived.WalkKit
import Derived.Test.YtgdbaceehpcgbaaDoorTxtPlain
namespace Go.Proofs.YtgdbaceehpcgbaaDoor
open Go.RowKit

/-- a digit's byte -/
def isDig (b : UInt8) : Bool := decide (48 ≤ b.toNat) && decide (b.toNat ≤ 57)
/-- one digit more: the number so far, and whether it was above -/
def rstep (st : Int × Bool) (d : Int) : Int × Bool := if st.2 = true ∨ (4611686018427387903 - d) / 10 < st.1 then (st.1, true) else (10 * st.1 + d, false)
/-- the number so far behind a text -/
def rst (l : List UInt8) : Int × Bool := l.foldl (fun st b => rstep st ((b.toNat : Int) - 48)) (0, false)
/-- what is answered by what was read -/
def rout (st : Int × Bool) : Int × Int := if st.2 then (0, 10) else (st.1, 0)
/-- the answer of Read -/
def readOut (l : List UInt8) : Int × Int := if l.isEmpty || !l.all isDig then (0, 11) else rout (rst l)

theorem rstep_bounds {st : Int × Bool} {d : Int} (h0 : 0 ≤ st.1) (h1 : st.1 ≤ 4611686018427387903) (d0 : 0 ≤ d) (_d9 : d ≤ 9) : 0 ≤ (rstep st d).1 ∧ (rstep st d).1 ≤ 4611686018427387903 := by
  unfold rstep; split
  · exact ⟨h0, h1⟩
  · rename_i h; simp only [not_or] at h; constructor <;> simp only <;> omega

theorem rst_snoc (l : List UInt8) (b : UInt8) : rst (l ++ [b]) = rstep (rst l) ((b.toNat : Int) - 48) := by simp [rst]

theorem rfold_bounds : ∀ (l : List UInt8) (st : Int × Bool), 0 ≤ st.1 → st.1 ≤ 4611686018427387903 → l.all isDig = true →
    0 ≤ (l.foldl (fun st b => rstep st ((b.toNat : Int) - 48)) st).1 ∧ (l.foldl (fun st b => rstep st ((b.toNat : Int) - 48)) st).1 ≤ 4611686018427387903
  | [], st, h0, h1, _ => ⟨h0, h1⟩
  | b :: l, st, h0, h1, h => by
    rw [List.all_cons, Bool.and_eq_true] at h
    have hb := h.1
    simp [isDig] at hb
    have := rstep_bounds (d := (b.toNat : Int) - 48) h0 h1 (by omega) (by omega)
    exact rfold_bounds l _ this.1 this.2 h.2

theorem rst_bounds (l : List UInt8) (h : l.all isDig = true) : 0 ≤ (rst l).1 ∧ (rst l).1 ≤ 4611686018427387903 :=
  rfold_bounds l (0, false) (by decide) (by decide) h

theorem take_succ_dig (l : List UInt8) (k : Nat) (h : k < l.length) : l.take (k + 1) = l.take k ++ [l[k]] := by
  rw [List.take_succ_eq_append_getElem h]

theorem readOut_bad {l : List UInt8} {k : Nat} (h : k < l.length) (hb : isDig l[k] = false) : readOut l = (0, 11) := by
  have : l.all isDig = false := by
    rw [List.all_eq_false]
    exact ⟨l[k], List.getElem_mem h, by simp [hb]⟩
  simp [readOut, this]

theorem readOut_good {l : List UInt8} (h : l ≠ []) (hall : l.all isDig = true) : readOut l = rout (rst l) := by
  unfold readOut
  rw [hall]
  cases l with
  | nil => exact absurd rfl h
  | cons => rfl

end Go.Proofs.YtgdbaceehpcgbaaDoor

namespace Go.Proofs.YtgdbaceehpcgbaaDoor
open Go.RowKit

/-- the decimal digits of m, no zeros ahead, as bytes (f: at least as many as there are digits) -/
def dec : Nat → Nat → List UInt8
  | 0, _ => []
  | f + 1, m => if m < 10 then [UInt8.ofNat (48 + m)] else dec f (m / 10) ++ [UInt8.ofNat (48 + m % 10)]

/-- what Digits answers -/
def digs (n : Int) : List UInt8 := if n < 0 then 45 :: dec 20 n.natAbs else dec 20 n.natAbs

theorem dec_small {f r : Nat} (h : r < 10) : dec (f + 1) r = [UInt8.ofNat (48 + r)] := by simp [dec, h]
theorem dec_big {f r : Nat} (h : 10 ≤ r) : dec (f + 1) r = dec f (r / 10) ++ [UInt8.ofNat (48 + r % 10)] := by
  simp [dec, show ¬ r < 10 from by omega]

theorem dig_toNat (r : Nat) : (UInt8.ofNat (48 + r % 10)).toNat = 48 + r % 10 := by
  rw [UInt8.toNat_ofNat']; omega

/-- what stands behind j rounds: the rest r, and the digits acc that were told -/
def Told (m j r : Nat) (acc : List UInt8) : Prop :=
  acc.length = j ∧ j ≤ 19 ∧ r < 10 ^ (19 - j) ∧ (if 1 ≤ j ∧ r = 0 then dec 20 m = acc else dec 20 m = dec (20 - j) r ++ acc)

theorem told_start {m : Nat} (h : m < 10 ^ 19) : Told m 0 m [] := ⟨rfl, by omega, h, by simp⟩

theorem told_lt {m j r : Nat} {acc : List UInt8} (h : Told m j r acc) (hr : 0 < r ∨ j = 0) : j < 19 := by
  obtain ⟨_, h2, h3, _⟩ := h
  rcases hr with hr | hr
  · rcases Nat.lt_or_ge j 19 with h | h
    · exact h
    · have : 19 - j = 0 := by omega
      rw [this] at h3; simp at h3; omega
  · omega

theorem told_step {m j r : Nat} {acc : List UInt8} (h : Told m j r acc) (hr : 0 < r ∨ j = 0) : Told m (j + 1) (r / 10) (UInt8.ofNat (48 + r % 10) :: acc) := by
  have hlt := told_lt h hr
  obtain ⟨h1, h2, h3, h4⟩ := h
  have hn : ¬ (1 ≤ j ∧ r = 0) := by omega
  rw [if_neg hn] at h4
  have e1 : 19 - j = (18 - j) + 1 := by omega
  have e2 : 20 - j = (19 - j) + 1 := by omega
  refine ⟨by simp [h1], by omega, ?_, ?_⟩
  · rw [e1, Nat.pow_succ] at h3
    rw [show 19 - (j + 1) = 18 - j from by omega]
    omega
  · rw [e2] at h4
    by_cases hs : r < 10
    · rw [if_pos ⟨by omega, by omega⟩, h4, dec_small hs, Nat.mod_eq_of_lt hs]; rfl
    · rw [if_neg (by omega), h4, dec_big (by omega), show 20 - (j + 1) = 19 - j from by omega]
      simp

theorem told_end {m j r : Nat} {acc : List UInt8} (h : Told m j r acc) (hr : r = 0) (hj : j ≠ 0) : acc = dec 20 m := by
  obtain ⟨_, _, _, h4⟩ := h
  rw [if_pos ⟨by omega, hr⟩] at h4
  exact h4.symm

theorem dec_length : ∀ (f m : Nat), (dec f m).length ≤ f
  | 0, _ => by simp [dec]
  | f + 1, m => by
    unfold dec; split
    · simp
    · have := dec_length f (m / 10); simp; omega

theorem digs_length (n : Int) : (digs n).length ≤ 21 := by
  have := dec_length 20 n.natAbs
  unfold digs; split
  · simp; omega
  · omega

theorem small_toNat {m : Nat} (h : m < 10) : (UInt8.ofNat (48 + m)).toNat = 48 + m := by rw [UInt8.toNat_ofNat']; omega

theorem dec_fuel : ∀ (f m : Nat), m < 10 ^ (f + 1) → dec (f + 2) m = dec (f + 1) m
  | 0, m, h => by rw [dec_small (by simpa using h), dec_small (by simpa using h)]
  | f + 1, m, h => by
    by_cases hs : m < 10
    · rw [dec_small hs, dec_small hs]
    · have hm : 10 ≤ m := by omega
      rw [dec_big (f := f + 2) hm, dec_big (f := f + 1) hm, dec_fuel f (m / 10) (by rw [Nat.pow_succ] at h; omega)]

theorem dec_split {m : Nat} (h : 10 ≤ m) (hm : m < 10 ^ 20) : dec 20 m = dec 20 (m / 10) ++ dec 20 (m % 10) := by
  rw [dec_fuel 18 (m / 10) (by omega), dec_small (f := 19) (r := m % 10) (by omega), ← dec_big h]

theorem digs_neg_small {n : Int} {m : Nat} (hn : n = -(m : Int)) (h0 : 0 < m) : digs n = 45 :: dec 20 m := by
  unfold digs
  rw [if_pos (by omega), show n.natAbs = m from by omega]

end Go.Proofs.YtgdbaceehpcgbaaDoor

namespace Go.Proofs.YtgdbaceehpcgbaaDoor
open Go.RowKit

/-- a blank; a byte within a note; a byte within a word -/
def blankN (n : Nat) : Bool := decide (n = 32 ∨ n = 10 ∨ n = 9)
def noteN (n : Nat) : Bool := decide (n ≠ 10)
def wordN (n : Nat) : Bool := letterN n || digitN n

/-- how many bytes go on -/
def runL (p : Nat → Bool) : List UInt8 → Nat
  | [] => 0
  | b :: r => if p b.toNat then runL p r + 1 else 0

/-- two slashes come -/
def slashes : List UInt8 → Bool
  | a :: b :: _ => decide (a.toNat = 47 ∧ b.toNat = 47)
  | _ => false

/-- how many bytes are blanks, within a note or not -/
def skipL : Bool → List UInt8 → Nat
  | _, [] => 0
  | true, b :: r => skipL (noteN b.toNat) r + 1
  | false, b :: r => if slashes (b :: r) then skipL true r + 1 else if blankN b.toNat then skipL false r + 1 else 0

theorem runL_le (p : Nat → Bool) : ∀ l : List UInt8, runL p l ≤ l.length
  | [] => Nat.le_refl _
  | b :: r => by
    have := runL_le p r
    unfold runL
    split <;> simp <;> omega

theorem skipL_le : ∀ (f : Bool) (l : List UInt8), skipL f l ≤ l.length
  | _, [] => by simp [skipL]
  | true, b :: r => by
    have := skipL_le (noteN b.toNat) r
    simp [skipL]; omega
  | false, b :: r => by
    have h1 := skipL_le true r
    have h2 := skipL_le false r
    unfold skipL
    split
    · simp; omega
    · split <;> simp; omega

/-- the place behind -/
def runTo (p : Nat → Bool) (s : ByteArray) (k : Nat) : Nat := k + runL p (s.data.toList.drop k)
def skipTo (f : Bool) (s : ByteArray) (k : Nat) : Nat := k + skipL f (s.data.toList.drop k)

theorem runTo_le {p : Nat → Bool} {s : ByteArray} {k : Nat} (h : k ≤ s.size) : runTo p s k ≤ s.size := by
  have := runL_le p (s.data.toList.drop k)
  rw [List.length_drop, list_size] at this
  unfold runTo; omega
theorem runTo_ge (p : Nat → Bool) (s : ByteArray) (k : Nat) : k ≤ runTo p s k := by unfold runTo; omega
theorem skipTo_le {f : Bool} {s : ByteArray} {k : Nat} (h : k ≤ s.size) : skipTo f s k ≤ s.size := by
  have := skipL_le f (s.data.toList.drop k)
  rw [List.length_drop, list_size] at this
  unfold skipTo; omega
theorem skipTo_ge (f : Bool) (s : ByteArray) (k : Nat) : k ≤ skipTo f s k := by unfold skipTo; omega

theorem runTo_end {p : Nat → Bool} {s : ByteArray} {k : Nat} (h : s.size ≤ k) : runTo p s k = k := by
  unfold runTo; rw [drop_end s k h]; rfl
theorem runTo_on {p : Nat → Bool} {s : ByteArray} {k : Nat} (h : k < s.size) (hp : p s[k].toNat = true) : runTo p s k = runTo p s (k + 1) := by
  unfold runTo; rw [drop_byte s k h]; simp [runL, hp]; omega
theorem runTo_off {p : Nat → Bool} {s : ByteArray} {k : Nat} (h : k < s.size) (hp : p s[k].toNat = false) : runTo p s k = k := by
  unfold runTo; rw [drop_byte s k h]; simp [runL, hp]
theorem runTo_stop {p : Nat → Bool} {s : ByteArray} {k : Nat} (h : runTo p s k < s.size) : p (s[runTo p s k]'h).toNat = false := by
  have key : ∀ (m k : Nat), s.size - k ≤ m → k ≤ s.size → ∀ h : runTo p s k < s.size, p (s[runTo p s k]'h).toNat = false := by
    intro m
    induction m with
    | zero =>
      intro k hk hks h
      have := runTo_ge p s k
      omega
    | succ m ih =>
      intro k hk hks h
      by_cases hkl : k < s.size
      · cases hp : p s[k].toNat with
        | true =>
          have e := runTo_on hkl hp
          have h' : runTo p s (k + 1) < s.size := by rw [← e]; exact h
          have := ih (k + 1) (by omega) (by omega) h'
          simp only [e]; exact this
        | false =>
          have e := runTo_off hkl hp
          simp only [e]; exact hp
      · have := runTo_ge p s k
        omega
  by_cases hks : k ≤ s.size
  · exact key _ k (Nat.le_refl _) hks h
  · have := runTo_ge p s k
    omega

/-- over a run of blanks -/
theorem skipTo_blanks {s : ByteArray} : ∀ (m k : Nat), s.size - k ≤ m → skipTo false s k = skipTo false s (runTo blankN s k)
  | 0, k, hk => by
    rw [runTo_end (by omega)]
  | m + 1, k, hk => by
    by_cases hkl : k < s.size
    · cases hp : blankN s[k].toNat with
      | true =>
        rw [runTo_on hkl hp, ← skipTo_blanks m (k + 1) (by omega)]
        have hs : slashes (s[k] :: s.data.toList.drop (k + 1)) = false := by
          have : s[k].toNat ≠ 47 := by simp [blankN] at hp; omega
          cases s.data.toList.drop (k + 1) <;> simp [slashes, this]
        unfold skipTo
        rw [drop_byte s k hkl]
        simp [skipL, hs, hp]; omega
      | false => rw [runTo_off hkl hp]
    · rw [runTo_end (by omega)]

/-- over a note -/
theorem skipTo_note {s : ByteArray} : ∀ (m k : Nat), s.size - k ≤ m → skipTo true s k = skipTo false s (runTo noteN s k)
  | 0, k, hk => by
    rw [runTo_end (by omega)]; unfold skipTo; rw [drop_end s k (by omega)]; simp [skipL]
  | m + 1, k, hk => by
    by_cases hkl : k < s.size
    · cases hp : noteN s[k].toNat with
      | true =>
        rw [runTo_on hkl hp, ← skipTo_note m (k + 1) (by omega)]
        unfold skipTo
        rw [drop_byte s k hkl]
        simp [skipL, hp]; omega
      | false =>
        rw [runTo_off hkl hp]
        have h10 : s[k].toNat = 10 := by simpa [noteN] using hp
        have hs : slashes (s[k] :: s.data.toList.drop (k + 1)) = false := by
          cases s.data.toList.drop (k + 1) <;> simp [slashes, h10]
        unfold skipTo
        rw [drop_byte s k hkl]
        simp [skipL, hs, h10, blankN, noteN]
    · rw [runTo_end (by omega)]; unfold skipTo; rw [drop_end s k (by omega)]; simp [skipL]

theorem skipTo_slashes {s : ByteArray} {k : Nat} (h : slashes (s.data.toList.drop k) = true) : skipTo false s k = skipTo false s (runTo noteN s k) := by
  rw [← skipTo_note _ k (Nat.le_refl _)]
  have hkl : k < s.size := by
    rcases Nat.lt_or_ge k s.size with h1 | h1
    · exact h1
    · rw [drop_end s k h1] at h; simp [slashes] at h
  have h47 : s[k].toNat = 47 := by
    rw [drop_byte s k hkl] at h
    cases hd : s.data.toList.drop (k + 1) with
    | nil => rw [hd] at h; simp [slashes] at h
    | cons c r => rw [hd] at h; simp [slashes] at h; exact h.1
  unfold skipTo
  rw [drop_byte s k hkl] at h ⊢
  simp [skipL, h, h47, noteN]

theorem skipTo_off {s : ByteArray} {k : Nat} (h : slashes (s.data.toList.drop k) = false) (hb : ∀ h : k < s.size, blankN s[k].toNat = false) : skipTo false s k = k := by
  by_cases hkl : k < s.size
  · unfold skipTo
    rw [drop_byte s k hkl] at h ⊢
    simp [skipL, h, hb hkl]
  · unfold skipTo; rw [drop_end s k (by omega)]; simp [skipL]

/-- the signs, in the order in which they are tried -/
def sgnL : List (List UInt8) := [[60, 61], [62, 61], [61, 61], [33, 61], [38, 38], [124, 124], [40], [41], [123], [125], [91], [93], [44], [59], [58], [46], [43], [45], [42], [47], [37], [60], [62], [61], [33]]
/-- the keys -/
def keyL : List (List UInt8) := [[99, 111, 117, 110, 116], [100, 101, 108, 101, 116, 101], [101, 108, 115, 101], [102, 97, 108, 115, 101], [102, 110], [104, 97, 115], [105, 102], [107, 101, 121], [108, 101, 110], [108, 101, 116],
  [110, 117, 108, 108], [112, 114, 105, 110, 116], [112, 114, 111, 116, 111], [114, 101, 116, 117, 114, 110], [115, 101, 116, 112, 114, 111, 116, 111], [115, 116, 114], [116, 104, 105, 115], [116, 114, 117, 101], [119, 104, 105, 108, 101]]
def keyB (l : List UInt8) : Bool := keyL.contains l
/-- the first of some signs with which a text begins -/
def firstOf : List (List UInt8) → List UInt8 → List UInt8
  | [], _ => []
  | x :: r, l => if x.isPrefixOf l then x else firstOf r l
def signL (l : List UInt8) : List UInt8 := firstOf sgnL l

/-- a token -/
structure Tok where
  kind : Int
  text : ByteArray
  num : Int
  pl : Int
def Tok.zero : Tok := ⟨0, ⟨#[]⟩, 0, 0⟩
def Tok.cells (t : Tok) : List Value := [.int .i64 t.kind, .string t.text, .int .i64 t.num, .int .i64 t.pl]
def Tok.val (t : Tok) : Value := .agg #[.int .i64 t.kind, .string t.text, .int .i64 t.num, .int .i64 t.pl]

/-- what comes at a place: the token and the place behind it, or an error and its place -/
abbrev TokOut := Tok × Nat × Int
def wordOut (l : List UInt8) (k : Nat) : TokOut :=
  if keyB (l.take (runL wordN l)) then (⟨2, ⟨(l.take (runL wordN l)).toArray⟩, 0, k⟩, k + runL wordN l, 0)
  else if nameB (l.take (runL wordN l)) then (⟨1, ⟨(l.take (runL wordN l)).toArray⟩, 0, k⟩, k + runL wordN l, 0) else (Tok.zero, k, 11)
def numbOut (l : List UInt8) (k : Nat) : TokOut :=
  if (readOut (l.take (runL digitN l))).2 = 0 then (⟨3, ⟨(digs (readOut (l.take (runL digitN l))).1).toArray⟩, (readOut (l.take (runL digitN l))).1, k⟩, k + runL digitN l, 0)
  else (Tok.zero, k, (readOut (l.take (runL digitN l))).2)
def quoOut (l : List UInt8) (k : Nat) : TokOut :=
  if (takeOut l).2.2 = 0 then (if 256 < (takeOut l).1.length then (Tok.zero, k, 3) else (⟨4, ⟨(takeOut l).1.toArray⟩, 0, k⟩, k + (takeOut l).2.1, 0))
  else (Tok.zero, k + (takeOut l).2.1, (takeOut l).2.2)
def sgnOut (l : List UInt8) (k : Nat) : TokOut :=
  if signL l = [] then (Tok.zero, k, 11) else (⟨5, ⟨(signL l).toArray⟩, 0, k⟩, k + (signL l).length, 0)
def oneOut (l : List UInt8) (k : Nat) : TokOut :=
  match l with
  | [] => (Tok.zero, k, 11)
  | b :: r => if letterN b.toNat then wordOut (b :: r) k else if digitN b.toNat then numbOut (b :: r) k else if b.toNat = 34 then quoOut (b :: r) k else sgnOut (b :: r) k

/-- all tokens from a place on, behind those that are there -/
def tokGo (s : ByteArray) : Nat → Nat → List Tok → List Tok × Nat × Int
  | 0, _, _ => ([], 0, 0)
  | f + 1, k, acc =>
    if s.size ≤ k then (acc ++ [⟨6, ⟨#[]⟩, 0, s.size⟩], 0, 0)
    else if (oneOut (s.data.toList.drop k) k).2.2 ≠ 0 then ([], (oneOut (s.data.toList.drop k) k).2.1, (oneOut (s.data.toList.drop k) k).2.2)
    else if acc.length = 600 then ([], k, 5)
    else tokGo s f (skipTo false s (oneOut (s.data.toList.drop k) k).2.1) (acc ++ [(oneOut (s.data.toList.drop k) k).1])
def tokOut (s : ByteArray) : List Tok × Nat × Int := if 2000 < s.size then ([], 0, 3) else tokGo s (s.size + 1) (skipTo false s 0) []

/-- whether a token may come -/
def rightTok (t : Tok) : Bool :=
  if t.kind = 3 then decide (0 ≤ t.num) && (decide (t.num ≤ 4611686018427387903) && (t.text.data.toList == digs t.num))
  else if t.num = 0 then
    (if t.kind = 1 then nameB t.text.data.toList && !keyB t.text.data.toList
    else if t.kind = 2 then keyB t.text.data.toList
    else if t.kind = 4 then decide (t.text.size ≤ 256)
    else if t.kind = 5 then sgnL.contains t.text.data.toList
    else if t.kind = 6 then t.text.data.toList.isEmpty else false)
  else false
/-- a token as text; tokens as text -/
def tokText (t : Tok) : List UInt8 := if t.kind = 4 then quoted t.text.data.toList else t.text.data.toList
def printL (l : List Tok) : List UInt8 := l.flatMap fun t => tokText t ++ [32]

end Go.Proofs.YtgdbaceehpcgbaaDoor
