/- The document's tokens as plain functions. One step of reading tokens. Tokens that may be come back from their text. -/
import Derived.Test.YtnojlfdojmkonaaGreatDoorJoint1
import Derived.Test.YtnojlfdojmkonaaGreatDoorTxtPlain
namespace Go.Proofs.YtnojlfdojmkonaaGreatDoor
open Go.RowKit

/-- a blank; a byte within a note; a byte within a word -/
def blankN (n : Nat) : Bool := decide (n = 32 ∨ n = 10 ∨ n = 9)
def noteN (n : Nat) : Bool := decide (n ≠ 10)
def wordN (n : Nat) : Bool := letterN n || digitN n

/-- how many bytes go on -/
def runL (p : Nat → Bool) : List UInt8 → Nat
  | [] => 0
  | b :: r => if p b.toNat then runL p r + 1 else 0

/-- two slashes come -/
def slashes : List UInt8 → Bool
  | a :: b :: _ => decide (a.toNat = 47 ∧ b.toNat = 47)
  | _ => false

/-- how many bytes are blanks, within a note or not -/
def skipL : Bool → List UInt8 → Nat
  | _, [] => 0
  | true, b :: r => skipL (noteN b.toNat) r + 1
  | false, b :: r => if slashes (b :: r) then skipL true r + 1 else if blankN b.toNat then skipL false r + 1 else 0

theorem runL_le (p : Nat → Bool) : ∀ l : List UInt8, runL p l ≤ l.length
  | [] => Nat.le_refl _
  | b :: r => by
    have := runL_le p r
    unfold runL
    split <;> simp <;> omega

theorem skipL_le : ∀ (f : Bool) (l : List UInt8), skipL f l ≤ l.length
  | _, [] => by simp [skipL]
  | true, b :: r => by
    have := skipL_le (noteN b.toNat) r
    simp [skipL]; omega
  | false, b :: r => by
    have h1 := skipL_le true r
    have h2 := skipL_le false r
    unfold skipL
    split
    · simp; omega
    · split <;> simp; omega

/-- the place behind -/
def runTo (p : Nat → Bool) (s : ByteArray) (k : Nat) : Nat := k + runL p (s.data.toList.drop k)
def skipTo (f : Bool) (s : ByteArray) (k : Nat) : Nat := k + skipL f (s.data.toList.drop k)

theorem runTo_le {p : Nat → Bool} {s : ByteArray} {k : Nat} (h : k ≤ s.size) : runTo p s k ≤ s.size := by
  have := runL_le p (s.data.toList.drop k)
  rw [List.length_drop, list_size] at this
  unfold runTo; omega
theorem runTo_ge (p : Nat → Bool) (s : ByteArray) (k : Nat) : k ≤ runTo p s k := by unfold runTo; omega
theorem skipTo_le {f : Bool} {s : ByteArray} {k : Nat} (h : k ≤ s.size) : skipTo f s k ≤ s.size := by
  have := skipL_le f (s.data.toList.drop k)
  rw [List.length_drop, list_size] at this
  unfold skipTo; omega
theorem skipTo_ge (f : Bool) (s : ByteArray) (k : Nat) : k ≤ skipTo f s k := by unfold skipTo; omega

theorem runTo_end {p : Nat → Bool} {s : ByteArray} {k : Nat} (h : s.size ≤ k) : runTo p s k = k := by
  unfold runTo; rw [drop_end s k h]; rfl
theorem runTo_on {p : Nat → Bool} {s : ByteArray} {k : Nat} (h : k < s.size) (hp : p s[k].toNat = true) : runTo p s k = runTo p s (k + 1) := by
  unfold runTo; rw [drop_byte s k h]; simp [runL, hp]; omega
theorem runTo_off {p : Nat → Bool} {s : ByteArray} {k : Nat} (h : k < s.size) (hp : p s[k].toNat = false) : runTo p s k = k := by
  unfold runTo; rw [drop_byte s k h]; simp [runL, hp]
theorem runTo_stop {p : Nat → Bool} {s : ByteArray} {k : Nat} (h : runTo p s k < s.size) : p (s[runTo p s k]'h).toNat = false := by
  have key : ∀ (m k : Nat), s.size - k ≤ m → k ≤ s.size → ∀ h : runTo p s k < s.size, p (s[runTo p s k]'h).toNat = false := by
    intro m
    induction m with
    | zero =>
      intro k hk hks h
      have := runTo_ge p s k
      omega
    | succ m ih =>
      intro k hk hks h
      by_cases hkl : k < s.size
      · cases hp : p s[k].toNat with
        | true =>
          have e := runTo_on hkl hp
          have h' : runTo p s (k + 1) < s.size := by rw [← e]; exact h
          have := ih (k + 1) (by omega) (by omega) h'
          simp only [e]; exact this
        | false =>
          have e := runTo_off hkl hp
          simp only [e]; exact hp
      · have := runTo_ge p s k
        omega
  by_cases hks : k ≤ s.size
  · exact key _ k (Nat.le_refl _) hks h
  · have := runTo_ge p s k
    omega

/-- over a run of blanks -/
theorem skipTo_blanks {s : ByteArray} : ∀ (m k : Nat), s.size - k ≤ m → skipTo false s k = skipTo false s (runTo blankN s k)
  | 0, k, hk => by
    rw [runTo_end (by omega)]
  | m + 1, k, hk => by
    by_cases hkl : k < s.size
    · cases hp : blankN s[k].toNat with
      | true =>
        rw [runTo_on hkl hp, ← skipTo_blanks m (k + 1) (by omega)]
        have hs : slashes (s[k] :: s.data.toList.drop (k + 1)) = false := by
          have : s[k].toNat ≠ 47 := by simp [blankN] at hp; omega
          cases s.data.toList.drop (k + 1) <;> simp [slashes, this]
        unfold skipTo
        rw [drop_byte s k hkl]
        simp [skipL, hs, hp]; omega
      | false => rw [runTo_off hkl hp]
    · rw [runTo_end (by omega)]

/-- over a note -/
theorem skipTo_note {s : ByteArray} : ∀ (m k : Nat), s.size - k ≤ m → skipTo true s k = skipTo false s (runTo noteN s k)
  | 0, k, hk => by
    rw [runTo_end (by omega)]; unfold skipTo; rw [drop_end s k (by omega)]; simp [skipL]
  | m + 1, k, hk => by
    by_cases hkl : k < s.size
    · cases hp : noteN s[k].toNat with
      | true =>
        rw [runTo_on hkl hp, ← skipTo_note m (k + 1) (by omega)]
        unfold skipTo
        rw [drop_byte s k hkl]
        simp [skipL, hp]; omega
      | false =>
        rw [runTo_off hkl hp]
        have h10 : s[k].toNat = 10 := by simpa [noteN] using hp
        have hs : slashes (s[k] :: s.data.toList.drop (k + 1)) = false := by
          cases s.data.toList.drop (k + 1) <;> simp [slashes, h10]
        unfold skipTo
        rw [drop_byte s k hkl]
        simp [skipL, hs, h10, blankN, noteN]
    · rw [runTo_end (by omega)]; unfold skipTo; rw [drop_end s k (by omega)]; simp [skipL]

theorem skipTo_slashes {s : ByteArray} {k : Nat} (h : slashes (s.data.toList.drop k) = true) : skipTo false s k = skipTo false s (runTo noteN s k) := by
  rw [← skipTo_note _ k (Nat.le_refl _)]
  have hkl : k < s.size := by
    rcases Nat.lt_or_ge k s.size with h1 | h1
    · exact h1
    · rw [drop_end s k h1] at h; simp [slashes] at h
  have h47 : s[k].toNat = 47 := by
    rw [drop_byte s k hkl] at h
    cases hd : s.data.toList.drop (k + 1) with
    | nil => rw [hd] at h; simp [slashes] at h
    | cons c r => rw [hd] at h; simp [slashes] at h; exact h.1
  unfold skipTo
  rw [drop_byte s k hkl] at h ⊢
  simp [skipL, h, h47, noteN]

theorem skipTo_off {s : ByteArray} {k : Nat} (h : slashes (s.data.toList.drop k) = false) (hb : ∀ h : k < s.size, blankN s[k].toNat = false) : skipTo false s k = k := by
  by_cases hkl : k < s.size
  · unfold skipTo
    rw [drop_byte s k hkl] at h ⊢
    simp [skipL, h, hb hkl]
  · unfold skipTo; rw [drop_end s k (by omega)]; simp [skipL]

/-- the signs, in the order in which they are tried -/
def sgnL : List (List UInt8) := [[60, 61], [62, 61], [61, 61], [33, 61], [38, 38], [124, 124], [40], [41], [123], [125], [91], [93], [44], [59], [58], [46], [43], [45], [42], [47], [37], [60], [62], [61], [33]]
/-- the keys -/
def keyL : List (List UInt8) := [[99, 111, 117, 110, 116], [100, 101, 108, 101, 116, 101], [101, 108, 115, 101], [102, 97, 108, 115, 101], [102, 110], [104, 97, 115], [105, 102], [107, 101, 121], [108, 101, 110], [108, 101, 116],
  [110, 117, 108, 108], [112, 114, 105, 110, 116], [112, 114, 111, 116, 111], [114, 101, 116, 117, 114, 110], [115, 101, 116, 112, 114, 111, 116, 111], [115, 116, 114], [116, 104, 105, 115], [116, 114, 117, 101], [119, 104, 105, 108, 101]]
def keyB (l : List UInt8) : Bool := keyL.contains l
/-- the first of some signs with which a text begins -/
def firstOf : List (List UInt8) → List UInt8 → List UInt8
  | [], _ => []
  | x :: r, l => if x.isPrefixOf l then x else firstOf r l
def signL (l : List UInt8) : List UInt8 := firstOf sgnL l

/-- a token -/
structure Tok where
  kind : Int
  text : ByteArray
  num : Int
  pl : Int
def Tok.zero : Tok := ⟨0, ⟨#[]⟩, 0, 0⟩
def Tok.cells (t : Tok) : List Value := [.int .i64 t.kind, .string t.text, .int .i64 t.num, .int .i64 t.pl]
def Tok.val (t : Tok) : Value := .agg #[.int .i64 t.kind, .string t.text, .int .i64 t.num, .int .i64 t.pl]

/-- what comes at a place: the token and the place behind it, or an error and its place -/
abbrev TokOut := Tok × Nat × Int
def wordOut (l : List UInt8) (k : Nat) : TokOut :=
  if keyB (l.take (runL wordN l)) then (⟨2, ⟨(l.take (runL wordN l)).toArray⟩, 0, k⟩, k + runL wordN l, 0)
  else if nameB (l.take (runL wordN l)) then (⟨1, ⟨(l.take (runL wordN l)).toArray⟩, 0, k⟩, k + runL wordN l, 0) else (Tok.zero, k, 11)
def numbOut (l : List UInt8) (k : Nat) : TokOut :=
  if (readOut (l.take (runL digitN l))).2 = 0 then (⟨3, ⟨(digs (readOut (l.take (runL digitN l))).1).toArray⟩, (readOut (l.take (runL digitN l))).1, k⟩, k + runL digitN l, 0)
  else (Tok.zero, k, (readOut (l.take (runL digitN l))).2)
def quoOut (l : List UInt8) (k : Nat) : TokOut :=
  if (takeOut l).2.2 = 0 then (if 256 < (takeOut l).1.length then (Tok.zero, k, 3) else (⟨4, ⟨(takeOut l).1.toArray⟩, 0, k⟩, k + (takeOut l).2.1, 0))
  else (Tok.zero, k + (takeOut l).2.1, (takeOut l).2.2)
def sgnOut (l : List UInt8) (k : Nat) : TokOut :=
  if signL l = [] then (Tok.zero, k, 11) else (⟨5, ⟨(signL l).toArray⟩, 0, k⟩, k + (signL l).length, 0)
def oneOut (l : List UInt8) (k : Nat) : TokOut :=
  match l with
  | [] => (Tok.zero, k, 11)
  | b :: r => if letterN b.toNat then wordOut (b :: r) k else if digitN b.toNat then numbOut (b :: r) k else if b.toNat = 34 then quoOut (b :: r) k else sgnOut (b :: r) k

/-- all tokens from a place on, behind those that are there -/
def tokGo (s : ByteArray) : Nat → Nat → List Tok → List Tok × Nat × Int
  | 0, _, _ => ([], 0, 0)
  | f + 1, k, acc =>
    if s.size ≤ k then (acc ++ [⟨6, ⟨#[]⟩, 0, s.size⟩], 0, 0)
    else if (oneOut (s.data.toList.drop k) k).2.2 ≠ 0 then ([], (oneOut (s.data.toList.drop k) k).2.1, (oneOut (s.data.toList.drop k) k).2.2)
    else if acc.length = 600 then ([], k, 5)
    else tokGo s f (skipTo false s (oneOut (s.data.toList.drop k) k).2.1) (acc ++ [(oneOut (s.data.toList.drop k) k).1])
def tokOut (s : ByteArray) : List Tok × Nat × Int := if 2000 < s.size then ([], 0, 3) else tokGo s (s.size + 1) (skipTo false s 0) []

/-- whether a token may come -/
def rightTok (t : Tok) : Bool :=
  if t.kind = 3 then decide (0 ≤ t.num) && (decide (t.num ≤ 4611686018427387903) && (t.text.data.toList == digs t.num))
  else if t.num = 0 then
    (if t.kind = 1 then nameB t.text.data.toList && !keyB t.text.data.toList
    else if t.kind = 2 then keyB t.text.data.toList
    else if t.kind = 4 then decide (t.text.size ≤ 256)
    else if t.kind = 5 then sgnL.contains t.text.data.toList
    else if t.kind = 6 then t.text.data.toList.isEmpty else false)
  else false
/-- a token as text; tokens as text -/
def tokText (t : Tok) : List UInt8 := if t.kind = 4 then quoted t.text.data.toList else t.text.data.toList
def printL (l : List Tok) : List UInt8 := l.flatMap fun t => tokText t ++ [32]

end Go.Proofs.YtnojlfdojmkonaaGreatDoor

namespace Go.Proofs.YtnojlfdojmkonaaGreatDoor
open Go.RowKit

theorem tokGo_end {s : ByteArray} {f k : Nat} {acc : List Tok} (h : s.size ≤ k) : tokGo s (f + 1) k acc = (acc ++ [⟨6, ⟨#[]⟩, 0, s.size⟩], 0, 0) := by rw [tokGo, if_pos h]
theorem tokGo_bad {s : ByteArray} {f k : Nat} {acc : List Tok} {o : TokOut} (h : k < s.size) (ho : oneOut (s.data.toList.drop k) k = o) (he : o.2.2 ≠ 0) : tokGo s (f + 1) k acc = ([], o.2.1, o.2.2) := by
  rw [tokGo, if_neg (by omega), ho, if_pos he]
theorem tokGo_full {s : ByteArray} {f k : Nat} {acc : List Tok} {o : TokOut} (h : k < s.size) (ho : oneOut (s.data.toList.drop k) k = o) (he : o.2.2 = 0) (hf : acc.length = 600) : tokGo s (f + 1) k acc = ([], k, 5) := by
  rw [tokGo, if_neg (by omega), ho, if_neg (by rw [he]; decide), if_pos hf]
theorem tokGo_more {s : ByteArray} {f k : Nat} {acc : List Tok} {o : TokOut} (h : k < s.size) (ho : oneOut (s.data.toList.drop k) k = o) (he : o.2.2 = 0) (hf : acc.length ≠ 600) :
    tokGo s (f + 1) k acc = tokGo s f (skipTo false s o.2.1) (acc ++ [o.1]) := by
  rw [tokGo, if_neg (by omega), ho, if_neg (by rw [he]; decide), if_neg hf]

end Go.Proofs.YtnojlfdojmkonaaGreatDoor

namespace Go.Proofs.YtnojlfdojmkonaaGreatDoor
open Go.RowKit

theorem dec_all : ∀ (f m : Nat), (dec f m).all isDig = true
  | 0, _ => by simp [dec]
  | f + 1, m => by
    unfold dec; split
    · rename_i h
      simp only [List.all_cons, List.all_nil, isDig, small_toNat h]; simp; omega
    · rw [List.all_append, dec_all f (m / 10)]
      simp only [List.all_cons, List.all_nil, isDig, dig_toNat]; simp; omega

theorem dec_ne : ∀ (f m : Nat), dec (f + 1) m ≠ [] := by
  intro f m
  unfold dec; split <;> simp

theorem dec_reads : ∀ (f m : Nat), m < 10 ^ f → (m ≤ 4611686018427387903 → rst (dec f m) = ((m : Int), false)) ∧ (4611686018427387903 < m → (rst (dec f m)).2 = true)
  | 0, m, h => by
    have : m = 0 := by simpa using h
    subst this
    exact ⟨fun _ => rfl, fun h => absurd h (by decide)⟩
  | f + 1, m, h => by
    by_cases hs : m < 10
    · rw [dec_small hs]
      refine ⟨fun _ => ?_, fun h => by omega⟩
      simp only [rst, List.foldl_cons, List.foldl_nil, small_toNat hs, rstep]
      rw [if_neg (by simp; omega)]
      simp; omega
    · rw [dec_big (by omega), rst_snoc, dig_toNat]
      have hq : m / 10 < 10 ^ f := by rw [Nat.pow_succ] at h; omega
      have ih := dec_reads f (m / 10) hq
      refine ⟨fun hm => ?_, fun hm => ?_⟩
      · rw [ih.1 (by omega)]
        unfold rstep
        rw [if_neg (by simp; omega)]
        simp; omega
      · by_cases hq2 : m / 10 ≤ 4611686018427387903
        · rw [ih.1 hq2]
          unfold rstep
          rw [if_pos (by right; simp; omega)]
        · unfold rstep
          rw [if_pos (Or.inl (ih.2 (by omega)))]

theorem back_in {n : Int} (h0 : 0 ≤ n) (h1 : n ≤ 4611686018427387903) : readOut (digs n) = (n, 0) := by
  unfold digs
  rw [if_neg (by omega), readOut_good (dec_ne _ _) (dec_all _ _), (dec_reads 20 n.natAbs (by omega)).1 (by omega)]
  unfold rout
  simp; omega

theorem runL_all {p : Nat → Bool} {c : UInt8} {r : List UInt8} (hc : p c.toNat = false) : ∀ x : List UInt8, (∀ b ∈ x, p b.toNat = true) → runL p (x ++ c :: r) = x.length
  | [], _ => by simp [runL, hc]
  | b :: x, h => by
    have h1 := h b (by simp)
    have h2 := runL_all (r := r) hc x (fun y hy => h y (by simp [hy]))
    simp [runL, h1, h2]
theorem take_all (x r : List UInt8) : (x ++ r).take x.length = x := by simp

theorem bytes_of (s : ByteArray) : (⟨s.data.toList.toArray⟩ : ByteArray) = s := by cases s; simp

theorem word_back {x r : List UInt8} {k : Nat} (hw : ∀ b ∈ x, wordN b.toNat = true) :
    wordOut (x ++ 32 :: r) k = if keyB x then (⟨2, ⟨x.toArray⟩, 0, k⟩, k + x.length, 0) else if nameB x then (⟨1, ⟨x.toArray⟩, 0, k⟩, k + x.length, 0) else (Tok.zero, k, 11) := by
  unfold wordOut
  rw [runL_all (by decide) x hw, take_all]

theorem one_word {b : UInt8} {x r : List UInt8} {k : Nat} (h : letterN b.toNat = true) : oneOut (b :: x ++ r) k = wordOut (b :: x ++ r) k := by
  show oneOut (b :: (x ++ r)) k = wordOut (b :: (x ++ r)) k
  unfold oneOut
  simp only
  rw [if_pos h]

theorem letter_word {n : Nat} (h : letterN n = true) : wordN n = true := by simp [wordN, h]
theorem digit_word {n : Nat} (h : digitN n = true) : wordN n = true := by simp [wordN, h]
theorem digit_letter {n : Nat} (h : digitN n = true) : letterN n = false := by
  simp [digitN] at h
  simp [letterN]; omega

theorem key_shape : ∀ x ∈ keyL, ∃ b r, x = b :: r ∧ letterN b.toNat = true ∧ ∀ c ∈ x, wordN c.toNat = true := by
  have h : ∀ x ∈ keyL, (match x with | [] => false | b :: _ => letterN b.toNat) = true ∧ x.all (fun c => wordN c.toNat) = true := by decide
  intro x hx
  obtain ⟨h1, h2⟩ := h x hx
  cases x with
  | nil => cases h1
  | cons b r => exact ⟨b, r, rfl, h1, fun c hc => List.all_eq_true.1 h2 c hc⟩
theorem name_shape {x : List UInt8} (h : nameB x = true) : ∃ b r, x = b :: r ∧ letterN b.toNat = true ∧ ∀ c ∈ x, wordN c.toNat = true := by
  cases x with
  | nil => cases h
  | cons b r =>
    simp only [nameB, Bool.and_eq_true, List.all_eq_true] at h
    refine ⟨b, r, rfl, h.1.1, ?_⟩
    intro c hc
    rcases List.mem_cons.1 hc with rfl | hc
    · exact letter_word h.1.1
    · exact h.1.2 c hc

theorem sgn_back (x : List UInt8) (h : x ∈ sgnL) (r : List UInt8) (k : Nat) : oneOut (x ++ 32 :: r) k = (⟨5, ⟨x.toArray⟩, 0, k⟩, k + x.length, 0) := by
  simp only [sgnL, List.mem_cons, List.not_mem_nil, or_false] at h
  rcases h with rfl | rfl | rfl | rfl | rfl | rfl | rfl | rfl | rfl | rfl | rfl | rfl | rfl | rfl | rfl | rfl | rfl | rfl | rfl | rfl | rfl | rfl | rfl | rfl | rfl <;> rfl

/-- a token that may be, its place apart -/
def Tok.put (t : Tok) (k : Nat) : Tok := ⟨t.kind, t.text, t.num, k⟩

theorem one_back {t : Tok} (hr : rightTok t = true) (h6 : t.kind ≠ 6) (r : List UInt8) (k : Nat) : oneOut (tokText t ++ 32 :: r) k = (t.put k, k + (tokText t).length, 0) := by
  obtain ⟨kd, x, n, p⟩ := t
  simp only at h6
  unfold rightTok at hr
  simp only at hr
  by_cases h3 : kd = 3
  · subst h3
    rw [if_pos rfl, Bool.and_eq_true, Bool.and_eq_true, decide_eq_true_iff, decide_eq_true_iff, beq_iff_eq] at hr
    obtain ⟨n0, n1, hx⟩ := hr
    have hb := back_in n0 n1
    have hall : (digs n).all isDig = true := by
      unfold digs; rw [if_neg (by omega)]; exact dec_all _ _
    have hd : ∀ b ∈ digs n, digitN b.toNat = true := by
      intro b hb
      have := List.all_eq_true.1 hall b hb
      simp [isDig] at this
      simp [digitN]; omega
    have ht : tokText ⟨3, x, n, p⟩ = digs n := by unfold tokText; rw [if_neg (by simp)]; exact hx
    have hxb : x = ⟨(digs n).toArray⟩ := by rw [← hx, bytes_of]
    rw [ht]
    have hne : digs n ≠ [] := by unfold digs; rw [if_neg (by omega)]; exact dec_ne _ _
    cases hdg : digs n with
    | nil => exact absurd hdg hne
    | cons b y =>
      have hb1 := hd b (by rw [hdg]; simp)
      have ho : oneOut (b :: y ++ 32 :: r) k = numbOut (b :: y ++ 32 :: r) k := by
        show oneOut (b :: (y ++ 32 :: r)) k = numbOut (b :: (y ++ 32 :: r)) k
        unfold oneOut
        simp only
        rw [if_neg (by rw [digit_letter hb1]; decide), if_pos hb1]
      rw [ho, ← hdg]
      unfold numbOut
      rw [runL_all (by decide) _ hd, take_all, hb, if_pos rfl]
      simp [Tok.put, hxb]
  · rw [if_neg h3] at hr
    by_cases hn : n = 0
    · subst hn
      rw [if_pos rfl] at hr
      by_cases h4 : kd = 4
      · subst h4
        simp at hr
        have ht : tokText ⟨4, x, 0, p⟩ = quoted x.data.toList := by unfold tokText; rw [if_pos rfl]
        rw [ht]
        have ho : oneOut (quoted x.data.toList ++ 32 :: r) k = quoOut (quoted x.data.toList ++ 32 :: r) k := rfl
        rw [ho]
        unfold quoOut
        rw [takeOut_quoted]
        simp only
        rw [if_pos trivial, if_neg (by rw [list_size]; omega), bytes_of]
        rfl
      · have ht : tokText ⟨kd, x, 0, p⟩ = x.data.toList := by unfold tokText; rw [if_neg h4]
        rw [ht]
        by_cases h1 : kd = 1
        · subst h1
          simp at hr
          obtain ⟨b, y, hx, hl, hw⟩ := name_shape hr.1
          rw [hx, one_word hl, ← hx, word_back hw, hr.2, if_neg (by decide), hr.1, if_pos rfl, bytes_of]
          rfl
        · by_cases h2 : kd = 2
          · subst h2
            simp at hr
            obtain ⟨b, y, hx, hl, hw⟩ := key_shape _ (List.contains_iff_mem.1 hr)
            rw [hx, one_word hl, ← hx, word_back hw, hr, if_pos rfl, bytes_of]
            rfl
          · by_cases h5 : kd = 5
            · subst h5
              simp at hr
              rw [sgn_back _ hr, bytes_of]
              rfl
            · rw [if_neg h1, if_neg h2, if_neg h4, if_neg h5, if_neg h6] at hr
              cases hr
    · rw [if_neg hn] at hr
      cases hr

theorem blank_bad {b : UInt8} {y : List UInt8} {k : Nat} (h : blankN b.toNat = true) : (oneOut (b :: y) k).2.2 = 11 := by
  have h3 : b = 32 ∨ b = 10 ∨ b = 9 := by
    simp [blankN] at h
    rcases h with h | h | h
    · left; exact UInt8.toNat_inj.1 h
    · right; left; exact UInt8.toNat_inj.1 h
    · right; right; exact UInt8.toNat_inj.1 h
  rcases h3 with rfl | rfl | rfl <;> rfl

theorem no_skip_one {t : Tok} (hr : rightTok t = true) (h6 : t.kind ≠ 6) (r : List UInt8) : skipL false (tokText t ++ 32 :: r) = 0 := by
  have h := one_back hr h6 r 0
  cases hl : tokText t ++ 32 :: r with
  | nil => simp at hl
  | cons b y =>
    rw [hl] at h
    have hb : blankN b.toNat = false := by
      cases hq : blankN b.toNat with
      | false => rfl
      | true =>
        have := blank_bad (y := y) (k := 0) hq
        rw [h] at this; cases this
    have hs : slashes (b :: y) = false := by
      cases hq : slashes (b :: y) with
      | false => rfl
      | true =>
        cases y with
        | nil => cases hq
        | cons c z =>
          simp [slashes] at hq
          have e1 : b = 47 := UInt8.toNat_inj.1 hq.1
          have e2 : c = 47 := UInt8.toNat_inj.1 hq.2
          subst e1 e2
          have h1 : oneOut (47 :: 47 :: z) 0 = (⟨5, ⟨#[47]⟩, 0, (0 : Nat)⟩, 1, 0) := rfl
          rw [h1] at h
          have h2 : (tokText t).length = 1 := by
            have := congrArg (fun o : TokOut => o.2.1) h
            simp at this; omega
          obtain ⟨a, ha⟩ := List.length_eq_one_iff.1 h2
          rw [ha] at hl
          simp at hl
    simp [skipL, hs, hb]

theorem printL_cons (t : Tok) (l : List Tok) : printL (t :: l) = tokText t ++ 32 :: printL l := by simp [printL]
theorem no_skip (l : List Tok) (h : ∀ t ∈ l, rightTok t = true ∧ t.kind ≠ 6) : skipL false (printL l) = 0 := by
  cases l with
  | nil => rfl
  | cons t l =>
    rw [printL_cons]
    exact no_skip_one (h t (by simp)).1 (h t (by simp)).2 _

/-- a token without its place -/
def bare (t : Tok) : Int × ByteArray × Int := (t.kind, t.text, t.num)

theorem back_go (s : ByteArray) : ∀ (l : List Tok) (f k : Nat) (acc : List Tok), s.data.toList.drop k = printL l → (∀ t ∈ l, rightTok t = true ∧ t.kind ≠ 6) → l.length < f → acc.length ≤ 600 →
    (acc.length + l.length ≤ 600 → ∃ out, tokGo s f k acc = (out, 0, 0) ∧ out.map bare = (acc ++ l).map bare ++ [(6, ⟨#[]⟩, 0)]) ∧ (600 < acc.length + l.length → ∃ p, tokGo s f k acc = ([], p, 5))
  | [], f, k, acc, hd, _, hf, ha => by
    obtain ⟨f, rfl⟩ : ∃ f', f = f' + 1 := ⟨f - 1, by simp at hf; omega⟩
    have hk : s.size ≤ k := by
      have := congrArg List.length hd
      rw [List.length_drop, list_size] at this
      simp [printL] at this; omega
    refine ⟨fun _ => ⟨_, tokGo_end hk, by simp [bare]⟩, fun h => by simp at h; omega⟩
  | t :: l, f, k, acc, hd, hr, hf, ha => by
    obtain ⟨f, rfl⟩ : ∃ f', f = f' + 1 := ⟨f - 1, by simp at hf; omega⟩
    rw [printL_cons] at hd
    obtain ⟨h1, h6⟩ := hr t (by simp)
    have hk : k < s.size := by
      rcases Nat.lt_or_ge k s.size with h | h
      · exact h
      · rw [drop_end s k h] at hd; simp at hd
    have ho : oneOut (s.data.toList.drop k) k = (t.put k, k + (tokText t).length, 0) := by rw [hd]; exact one_back h1 h6 _ _
    by_cases h600 : acc.length = 600
    · refine ⟨fun h => by simp at h; omega, fun _ => ⟨k, tokGo_full hk ho rfl h600⟩⟩
    · have hd2 : s.data.toList.drop (k + (tokText t).length) = 32 :: printL l := by
        rw [← List.drop_drop, hd]; simp
      have hd3 : s.data.toList.drop (k + (tokText t).length + 1) = printL l := by
        rw [← List.drop_drop, hd2]; simp
      have hsk : skipTo false s (k + (tokText t).length) = k + (tokText t).length + 1 := by
        unfold skipTo
        rw [hd2]
        have hs : slashes (32 :: printL l) = false := by cases printL l <;> simp [slashes]
        have := no_skip l (fun u hu => hr u (by simp [hu]))
        simp [skipL, hs, this, blankN]
      have hm := tokGo_more (f := f) (acc := acc) hk ho rfl h600
      simp only at hm
      rw [hsk] at hm
      have ih := back_go s l f (k + (tokText t).length + 1) (acc ++ [t.put k]) hd3 (fun u hu => hr u (by simp [hu])) (by simp at hf; omega) (by simp; omega)
      rw [hm]
      have hb : bare (t.put k) = bare t := rfl
      refine ⟨fun h => ?_, fun h => ?_⟩
      · obtain ⟨out, e1, e2⟩ := ih.1 (by simp at h ⊢; omega)
        refine ⟨out, e1, ?_⟩
        rw [e2]
        simp [hb]
      · exact ih.2 (by simp at h ⊢; omega)

theorem printL_ge : ∀ l : List Tok, l.length ≤ (printL l).length
  | [] => Nat.le_refl _
  | t :: l => by
    have := printL_ge l
    rw [printL_cons]; simp; omega

theorem back_out (l : List Tok) (s : ByteArray) (hs : s.data.toList = printL l) (hr : ∀ t ∈ l, rightTok t = true ∧ t.kind ≠ 6) :
    (2000 < s.size → tokOut s = ([], 0, 3)) ∧ (s.size ≤ 2000 → 600 < l.length → ∃ p, tokOut s = ([], p, 5)) ∧
    (s.size ≤ 2000 → l.length ≤ 600 → ∃ out, tokOut s = (out, 0, 0) ∧ out.map bare = l.map bare ++ [(6, ⟨#[]⟩, 0)]) := by
  have h0 : skipTo false s 0 = 0 := by
    unfold skipTo
    rw [List.drop_zero, hs, no_skip l hr]
  have hsz : s.size = (printL l).length := by rw [← hs, list_size]
  have hge := printL_ge l
  have h := back_go s l (s.size + 1) 0 [] (by rw [List.drop_zero, hs]) hr (by omega) (by simp)
  refine ⟨fun h1 => ?_, fun h1 h2 => ?_, fun h1 h2 => ?_⟩
  · unfold tokOut; rw [if_pos h1]
  · obtain ⟨p, hp⟩ := h.2 (by simpa using h2)
    exact ⟨p, by unfold tokOut; rw [if_neg (by omega), h0, hp]⟩
  · obtain ⟨out, e1, e2⟩ := h.1 (by simpa using h2)
    exact ⟨out, by unfold tokOut; rw [if_neg (by omega), h0, e1], by simpa using e2⟩

end Go.Proofs.YtnojlfdojmkonaaGreatDoor
