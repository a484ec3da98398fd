/- What all our texts stand on: hidden facts, and chains of calls that leave old memory alone. Strings as they are written: plain functions on lists of bytes: no program in sight. Decimal digits of a whole number: no program in sight. What a value is, by its kind, its number and its bytes: no program in sight. -/
import Derived.WalkKit
import Derived.WalkLawsBesides
import Derived.WalkSpells
import Derived.Outline
import Derived.Below
namespace Go.Proofs.YtimhgbcanmgajaaGreat
open Go.RowKit

theorem hid {p : Prop} (h : p) : Hid p := h

theorem below_on {a b c : World} (h : Below a.heap.size a b) (k : Below b.heap.size b c) : Below a.heap.size a c := h.trans (k.mono h.size)
theorem below_in {B : Nat} {a b c : World} (h : Below B a b) (hB : B ≤ a.heap.size) (k : Below b.heap.size b c) : Below B a c := h.trans (k.mono (Nat.le_trans hB h.size))

end Go.Proofs.YtimhgbcanmgajaaGreat

namespace Go.Proofs.YtimhgbcanmgajaaGreat
open Go.RowKit

theorem take_byte (s : ByteArray) (k : Nat) (h : k < s.size) : s.data.toList.take (k + 1) = s.data.toList.take k ++ [s[k]] := by
  have hbs : k < s.data.toList.length := by simpa using h
  rw [List.take_succ_eq_append_getElem hbs, Array.getElem_toList]; rfl
theorem drop_byte (s : ByteArray) (k : Nat) (h : k < s.size) : s.data.toList.drop k = s[k] :: s.data.toList.drop (k + 1) := by
  have hbs : k < s.data.toList.length := by simpa using h
  rw [List.drop_eq_getElem_cons hbs, Array.getElem_toList]; rfl
theorem list_size (s : ByteArray) : s.data.toList.length = s.size := by simp
theorem drop_end (s : ByteArray) (k : Nat) (h : s.size ≤ k) : s.data.toList.drop k = [] := List.drop_of_length_le (by rw [list_size]; exact h)
theorem take_end (s : ByteArray) (k : Nat) (h : s.size ≤ k) : s.data.toList.take k = s.data.toList := List.take_of_length_le (by rw [list_size]; exact h)

/-- is the byte of this number written by itself? -/
def plainN (n : Nat) : Bool := decide (32 ≤ n ∧ n ≤ 126 ∧ n ≠ 34 ∧ n ≠ 92)
/-- a digit of 16, small -/
def hexd (n : Nat) : UInt8 := UInt8.ofNat (if n < 10 then 48 + n else 87 + n)
/-- how a byte is written -/
def qbyte (c : UInt8) : List UInt8 :=
  if plainN c.toNat then [c] else if c.toNat = 34 ∨ c.toNat = 92 then [92, c] else [92, 120, hexd (c.toNat / 16), hexd (c.toNat % 16)]
def qbody (l : List UInt8) : List UInt8 := l.flatMap qbyte
/-- how a string is written -/
def quoted (l : List UInt8) : List UInt8 := 34 :: (qbody l ++ [34])

theorem qbody_snoc (l : List UInt8) (c : UInt8) : qbody (l ++ [c]) = qbody l ++ qbyte c := by simp [qbody]
theorem qbyte_length (c : UInt8) : (qbyte c).length ≤ 4 := by by_cases h1 : plainN c.toNat <;> by_cases h2 : c.toNat = 34 ∨ c.toNat = 92 <;> simp [qbyte, h1, h2]
theorem qbyte_pos (c : UInt8) : 1 ≤ (qbyte c).length := by by_cases h1 : plainN c.toNat <;> by_cases h2 : c.toNat = 34 ∨ c.toNat = 92 <;> simp [qbyte, h1, h2]
theorem qbody_length : ∀ l : List UInt8, (qbody l).length ≤ 4 * l.length
  | [] => by simp [qbody]
  | c :: l => by
    have := qbody_length l
    have h := qbyte_length c
    simp [qbody] at this ⊢
    omega
theorem quoted_length (l : List UInt8) : (quoted l).length ≤ 4 * l.length + 2 := by
  have := qbody_length l
  simp [quoted]; omega

theorem hexd_toNat {n : Nat} (h : n < 16) : (hexd n).toNat = if n < 10 then 48 + n else 87 + n := by
  unfold hexd
  split <;> simp [UInt8.toNat_ofNat'] <;> omega

theorem digits_at (n : Nat) (h : n < (⟨#[48, 49, 50, 51, 52, 53, 54, 55, 56, 57, 97, 98, 99, 100, 101, 102]⟩ : ByteArray).size) : (⟨#[48, 49, 50, 51, 52, 53, 54, 55, 56, 57, 97, 98, 99, 100, 101, 102]⟩ : ByteArray)[n] = hexd n := by
  have : ∀ i : Fin 16, (#[48, 49, 50, 51, 52, 53, 54, 55, 56, 57, 97, 98, 99, 100, 101, 102] : Array UInt8)[i.val]? = some (hexd i.val) := by decide
  have h16 : n < 16 := h
  have h1 := this ⟨n, h16⟩
  have h2 : (#[48, 49, 50, 51, 52, 53, 54, 55, 56, 57, 97, 98, 99, 100, 101, 102] : Array UInt8)[n]? = some (#[48, 49, 50, 51, 52, 53, 54, 55, 56, 57, 97, 98, 99, 100, 101, 102] : Array UInt8)[n] := Array.getElem?_eq_getElem h16
  rw [h2] at h1
  exact Option.some.inj h1

/-- what a digit of 16 is worth; 16: it is none -/
def worthN (n : Nat) : Nat :=
  if 48 ≤ n ∧ n ≤ 57 then n - 48 else if 97 ≤ n ∧ n ≤ 102 then n - 87 else if 65 ≤ n ∧ n ≤ 70 then n - 55 else 16
theorem worthN_le (n : Nat) : worthN n ≤ 16 := by
  unfold worthN
  split
  · omega
  · split
    · omega
    · split <;> omega
theorem worthN_hexd {n : Nat} (h : n < 16) : worthN (hexd n).toNat = n := by
  rw [hexd_toNat h]
  unfold worthN
  by_cases h10 : n < 10
  · rw [if_pos h10, if_pos (by omega)]; omega
  · rw [if_neg h10, if_neg (by omega), if_pos (by omega)]; omega

/-- what stands for one byte at the head of a text: the byte, and how many bytes it takes; or none, and how far the first fault is -/
def oneOf : List UInt8 → Option UInt8 × Nat
  | [] => (none, 0)
  | c :: r => if plainN c.toNat then (some c, 1) else if c.toNat ≠ 92 then (none, 0) else
    match r with
    | [] => (none, 1)
    | d :: r2 => if d.toNat = 34 ∨ d.toNat = 92 then (some d, 2) else if d.toNat ≠ 120 then (none, 1) else
      match r2 with
      | [] => (none, 2)
      | x :: r3 => if worthN x.toNat = 16 then (none, 2) else
        match r3 with
        | [] => (none, 3)
        | y :: _ => if worthN y.toNat = 16 then (none, 3) else (some (UInt8.ofNat (16 * worthN x.toNat + worthN y.toNat)), 4)

/-- the rest of a string from place k on; acc: what is read so far -/
def takeGo : Nat → List UInt8 → Nat → List UInt8 → List UInt8 × Nat × Int
  | 0, _, k, _ => ([], k, 11)
  | _ + 1, [], k, _ => ([], k, 11)
  | f + 1, c :: r, k, acc =>
    if c.toNat = 34 then (acc, k + 1, 0) else
    match oneOf (c :: r) with
    | (none, n) => ([], k + n, 11)
    | (some b, n) => takeGo f ((c :: r).drop n) (k + n) (acc ++ [b])

/-- the string with which a text begins -/
def takeOut : List UInt8 → List UInt8 × Nat × Int
  | [] => ([], 0, 11)
  | c :: r => if c.toNat = 34 then takeGo (r.length + 1) r 1 [] else ([], 0, 11)

theorem oneOf_le (l : List UInt8) : (oneOf l).2 ≤ l.length := by
  unfold oneOf
  split
  · simp
  · split
    · simp
    · split
      · simp
      · split
        · simp
        · split
          · simp
          · split
            · simp
            · split
              · simp
              · split
                · simp
                · split
                  · simp
                  · split <;> simp

theorem oneOf_pos {l : List UInt8} {b : UInt8} {n : Nat} (h : oneOf l = (some b, n)) : 1 ≤ n := by
  unfold oneOf at h
  split at h
  · simp at h
  · split at h
    · simp at h; omega
    · split at h
      · simp at h
      · split at h
        · simp at h
        · split at h
          · simp at h; omega
          · split at h
            · simp at h
            · split at h
              · simp at h
              · split at h
                · simp at h
                · split at h
                  · simp at h
                  · split at h
                    · simp at h
                    · simp at h; omega

/-- what is read hangs on the bytes that are read alone -/
theorem oneOf_on {l : List UInt8} {b : UInt8} {n : Nat} (h : oneOf l = (some b, n)) (t : List UInt8) : oneOf (l.take n ++ t) = (some b, n) := by
  unfold oneOf at h
  split at h
  · simp at h
  · rename_i c r
    split at h
    · rename_i hp
      simp at h; obtain ⟨rfl, rfl⟩ := h
      simp [oneOf, hp]
    · rename_i hp
      split at h
      · simp at h
      · rename_i h92
        split at h
        · simp at h
        · rename_i d r2
          split at h
          · rename_i hd
            simp at h; obtain ⟨rfl, rfl⟩ := h
            simp [oneOf, hp, h92, hd]
          · rename_i hd
            split at h
            · simp at h
            · rename_i hx
              split at h
              · simp at h
              · rename_i x r3
                split at h
                · simp at h
                · rename_i hwx
                  split at h
                  · simp at h
                  · rename_i y r4
                    split at h
                    · simp at h
                    · rename_i hwy
                      simp at h; obtain ⟨rfl, rfl⟩ := h
                      simp [oneOf, hp, h92, hd, hx, hwx, hwy]

theorem oneOf_not34 {c : UInt8} {r : List UInt8} {b : UInt8} {n : Nat} (h : oneOf (c :: r) = (some b, n)) : c.toNat ≠ 34 := by
  intro h34
  have hp : plainN 34 = false := by decide
  simp [oneOf, hp, h34] at h

theorem oneOf_qbyte (c : UInt8) (t : List UInt8) : oneOf (qbyte c ++ t) = (some c, (qbyte c).length) := by
  have hc := c.toNat_lt
  unfold qbyte
  split
  · rename_i hp
    simp [oneOf, hp]
  · rename_i hp
    split
    · rename_i hq
      have h92 : plainN (92 : UInt8).toNat = false := by decide
      simp only [List.cons_append, List.nil_append, oneOf, h92]
      rw [if_neg (by decide), if_neg (by decide), if_pos hq]
      rfl
    · rename_i hq
      have h92 : plainN (92 : UInt8).toNat = false := by decide
      have w1 := worthN_hexd (n := c.toNat / 16) (by omega)
      have w2 := worthN_hexd (n := c.toNat % 16) (by omega)
      simp only [List.cons_append, List.nil_append, oneOf, h92, w1, w2]
      rw [if_neg (by decide), if_neg (by decide), if_neg (by decide), if_neg (by decide), if_neg (by omega), if_neg (by omega)]
      have : UInt8.ofNat (16 * (c.toNat / 16) + c.toNat % 16) = c := by
        rw [show 16 * (c.toNat / 16) + c.toNat % 16 = c.toNat from by omega]; simp
      rw [this]
      rfl

theorem qbyte_head (c : UInt8) : ∃ h r, qbyte c = h :: r ∧ h.toNat ≠ 34 := by
  unfold qbyte
  split
  · rename_i hp
    refine ⟨c, [], rfl, ?_⟩
    simp [plainN] at hp
    omega
  · split
    · exact ⟨92, [c], rfl, by decide⟩
    · exact ⟨92, _, rfl, by decide⟩

theorem takeGo_step {f : Nat} {c : UInt8} {r : List UInt8} {k : Nat} {acc : List UInt8} {b : UInt8} {n : Nat} (h : oneOf (c :: r) = (some b, n)) :
    takeGo (f + 1) (c :: r) k acc = takeGo f ((c :: r).drop n) (k + n) (acc ++ [b]) := by
  rw [takeGo, if_neg (oneOf_not34 h), h]

/-- a written body, and what is behind it -/
theorem takeGo_quoted : ∀ (l t : List UInt8) (f k : Nat) (acc : List UInt8), l.length < f → takeGo f (qbody l ++ 34 :: t) k acc = (acc ++ l, k + (qbody l).length + 1, 0)
  | [], t, f + 1, k, acc, _ => by simp [qbody, takeGo]
  | c :: l, t, f + 1, k, acc, h => by
    obtain ⟨x, r, hq, hx⟩ := qbyte_head c
    have e : qbody (c :: l) ++ 34 :: t = qbyte c ++ (qbody l ++ 34 :: t) := by simp [qbody]
    have ho := oneOf_qbyte c (qbody l ++ 34 :: t)
    rw [e]
    generalize hrest : qbody l ++ 34 :: t = rest at *
    rw [hq] at ho ⊢
    rw [List.cons_append] at ho ⊢
    rw [takeGo_step ho]
    have hd : (x :: (r ++ rest)).drop (x :: r).length = rest := by
      rw [← List.cons_append, List.drop_left]
    rw [hd, ← hrest, takeGo_quoted l t f _ _ (by simp at h; omega)]
    have hl : (qbody (c :: l)).length = (x :: r).length + (qbody l).length := by rw [← hq]; simp [qbody]
    rw [hl]
    simp
    omega

theorem length_qbody_ge : ∀ l : List UInt8, l.length ≤ (qbody l).length
  | [] => by simp
  | c :: l => by
    have := length_qbody_ge l
    have h := qbyte_pos c
    simp [qbody] at this ⊢
    omega

/-- P2.4: a string comes back -/
theorem takeOut_quoted (l t : List UInt8) : takeOut (quoted l ++ t) = (l, (quoted l).length, 0) := by
  have hge := length_qbody_ge l
  unfold quoted
  simp only [List.cons_append, List.append_assoc, List.nil_append, takeOut]
  rw [if_pos (by decide), takeGo_quoted l t _ _ _ (by simp; omega)]
  simp
  omega

theorem quoted_inj {a b : List UInt8} (h : quoted a = quoted b) : a = b := by
  have ha := takeOut_quoted a []
  have hb := takeOut_quoted b []
  rw [h, hb] at ha
  exact (congrArg Prod.fst ha).symm

theorem qbyte_seen (c x : UInt8) (h : x ∈ qbyte c) : 32 ≤ x.toNat ∧ x.toNat ≤ 126 := by
  have hc := c.toNat_lt
  unfold qbyte at h
  split at h
  · rename_i hp
    simp [plainN] at hp
    simp at h; subst h; omega
  · split at h
    · rename_i hq
      simp at h
      rcases h with rfl | rfl
      · decide
      · omega
    · simp at h
      rcases h with rfl | rfl | rfl | rfl
      · decide
      · decide
      · rw [hexd_toNat (by omega)]; split <;> omega
      · rw [hexd_toNat (by omega)]; split <;> omega

theorem quoted_seen (l : List UInt8) (x : UInt8) (h : x ∈ quoted l) : 32 ≤ x.toNat ∧ x.toNat ≤ 126 := by
  simp [quoted, qbody] at h
  rcases h with rfl | ⟨c, _, hc⟩ | rfl
  · decide
  · exact qbyte_seen c x hc
  · decide

/-- a string that was taken: its body reads so whatever is behind it -/
theorem takeGo_body : ∀ (f : Nat) (l : List UInt8) (k : Nat) (acc x : List UInt8) (n : Nat), takeGo f l k acc = (x, n, 0) →
    ∃ body rest y, l = body ++ 34 :: rest ∧ n = k + body.length + 1 ∧ x = acc ++ y ∧
      ∀ (g : Nat) (t : List UInt8) (k' : Nat) (acc' : List UInt8), body.length < g → ∃ g', 0 < g' ∧ takeGo g (body ++ t) k' acc' = takeGo g' t (k' + body.length) (acc' ++ y) ∧ g ≤ g' + body.length
  | 0, l, k, acc, x, n, h => by simp [takeGo] at h
  | f + 1, [], k, acc, x, n, h => by simp [takeGo] at h
  | f + 1, c :: r, k, acc, x, n, h => by
    rw [takeGo] at h
    split at h
    · rename_i h34
      simp at h
      refine ⟨[], r, [], ?_, by simp; omega, by simp [h.1], ?_⟩
      · have : c = 34 := UInt8.toNat_inj.1 h34
        simp [this]
      · intro g t k' acc' hg
        exact ⟨g, hg, by simp, by simp⟩
    · split at h
      · simp at h
      · rename_i b m ho
        obtain ⟨body, rest, y, hl, hn, hx, hon⟩ := takeGo_body f _ _ _ _ _ h
        have hm := oneOf_le (c :: r)
        rw [ho] at hm
        have hm1 := oneOf_pos ho
        refine ⟨(c :: r).take m ++ body, rest, b :: y, ?_, ?_, by simp [hx], ?_⟩
        · rw [List.append_assoc, ← hl, List.take_append_drop]
        · simp only [List.length_append, List.length_take]; simp only [] at hm; omega
        · intro g t k' acc' hg
          simp only [List.length_append, List.length_take] at hg
          simp only [] at hm
          obtain ⟨g0, rfl⟩ : ∃ g0, g = g0 + 1 := ⟨g - 1, by omega⟩
          obtain ⟨g', hg', he, hle⟩ := hon g0 t (k' + m) (acc' ++ [b]) (by omega)
          refine ⟨g', hg', ?_, ?_⟩
          · have h1 := oneOf_on ho (body ++ t)
            obtain ⟨m0, rfl⟩ : ∃ m0, m = m0 + 1 := ⟨m - 1, by omega⟩
            rw [List.take_succ_cons, List.cons_append] at h1
            rw [List.take_succ_cons, List.cons_append, List.cons_append, List.append_assoc, takeGo_step h1]
            have hd : (c :: (r.take m0 ++ (body ++ t))).drop (m0 + 1) = body ++ t := by
              rw [List.drop_succ_cons]
              have hl0 : (r.take m0).length = m0 := by simp at hm ⊢; omega
              have := List.drop_left (l₁ := r.take m0) (l₂ := body ++ t)
              rw [hl0] at this
              exact this
            rw [hd, he]
            simp
            have hl0 : min m0 r.length = m0 := by simp at hm; omega
            rw [hl0]
            congr 1
            omega
          · simp only [List.length_append, List.length_take]; omega

theorem takeOut_34 {l x : List UInt8} {n : Nat} (h : takeOut l = (x, n, 0)) : ∃ r, l = 34 :: r ∧ takeGo (r.length + 1) r 1 [] = (x, n, 0) := by
  unfold takeOut at h
  split at h
  · simp at h
  · split at h
    · rename_i c r h34
      exact ⟨r, by rw [show c = 34 from UInt8.toNat_inj.1 h34], h⟩
    · simp at h

theorem takeOut_good {l x : List UInt8} {n : Nat} (h : takeOut l = (x, n, 0)) :
    1 ≤ n ∧ n ≤ l.length ∧ takeOut (l.take n) = (x, n, 0) ∧ takeOut (l.take (n - 1)) = ([], n - 1, 11) := by
  obtain ⟨r, rfl, hg⟩ := takeOut_34 h
  obtain ⟨body, rest, y, rfl, rfl, rfl, hon⟩ := takeGo_body _ _ _ _ _ _ hg
  have t1 : (34 :: (body ++ 34 :: rest)).take (1 + body.length + 1) = 34 :: (body ++ [34]) := by
    rw [show 1 + body.length + 1 = (body.length + 1) + 1 from by omega, List.take_succ_cons, List.take_append, List.take_of_length_le (by omega)]
    simp
  have t2 : (34 :: (body ++ 34 :: rest)).take (1 + body.length + 1 - 1) = 34 :: body := by
    rw [show 1 + body.length + 1 - 1 = body.length + 1 from by omega, List.take_succ_cons, List.take_left]
  refine ⟨by omega, by simp; omega, ?_, ?_⟩
  · rw [t1]
    simp only [takeOut]
    rw [if_pos (by decide)]
    obtain ⟨g', hg', he, _⟩ := hon ((body ++ [34]).length + 1) [34] 1 [] (by simp; omega)
    obtain ⟨g0, rfl⟩ : ∃ g0, g' = g0 + 1 := ⟨g' - 1, by omega⟩
    rw [he, takeGo, if_pos (by decide)]
    simp
  · rw [t2]
    simp only [takeOut]
    rw [if_pos (by decide)]
    obtain ⟨g', hg', he, _⟩ := hon (body.length + 1) [] 1 [] (by omega)
    obtain ⟨g0, rfl⟩ : ∃ g0, g' = g0 + 1 := ⟨g' - 1, by omega⟩
    rw [List.append_nil] at he
    rw [he, takeGo]
    simp

theorem takeGo_bad : ∀ (f : Nat) (l : List UInt8) (k : Nat) (acc : List UInt8), (takeGo f l k acc).2.2 = 0 ∨ ((takeGo f l k acc).2.2 = 11 ∧ (takeGo f l k acc).1 = [] ∧ (takeGo f l k acc).2.1 ≤ k + l.length)
  | 0, l, k, acc => by simp [takeGo]
  | f + 1, [], k, acc => by simp [takeGo]
  | f + 1, c :: r, k, acc => by
    rw [takeGo]
    split
    · simp
    · split
      · rename_i n ho
        have := oneOf_le (c :: r)
        rw [ho] at this
        right
        simp at this ⊢
        omega
      · rename_i b n ho
        have hn := oneOf_le (c :: r)
        rw [ho] at hn
        rcases takeGo_bad f ((c :: r).drop n) (k + n) (acc ++ [b]) with h | ⟨h1, h2, h3⟩
        · exact Or.inl h
        · refine Or.inr ⟨h1, h2, ?_⟩
          simp at hn h3 ⊢
          omega

theorem takeOut_bad (l : List UInt8) : (takeOut l).2.2 = 0 ∨ ((takeOut l).2.2 = 11 ∧ (takeOut l).1 = [] ∧ (takeOut l).2.1 ≤ l.length) := by
  unfold takeOut
  split
  · simp
  · split
    · rename_i c r _
      rcases takeGo_bad (r.length + 1) r 1 [] with h | ⟨h1, h2, h3⟩
      · exact Or.inl h
      · exact Or.inr ⟨h1, h2, by simp; omega⟩
    · simp

/-- may a text be a name? -/
def letterN (n : Nat) : Bool := decide ((97 ≤ n ∧ n ≤ 122) ∨ (65 ≤ n ∧ n ≤ 90) ∨ n = 95)
def digitN (n : Nat) : Bool := decide (48 ≤ n ∧ n ≤ 57)
def nameB : List UInt8 → Bool
  | [] => false
  | c :: r => letterN c.toNat && r.all (fun x => letterN x.toNat || digitN x.toNat) && decide (r.length ≤ 11)

end Go.Proofs.YtimhgbcanmgajaaGreat

namespace Go.Proofs.YtimhgbcanmgajaaGreat
open Go.RowKit

/-- the decimal digits of m, no zeros ahead, as bytes (f: at least as many as there are digits) -/
def dec : Nat → Nat → List UInt8
  | 0, _ => []
  | f + 1, m => if m < 10 then [UInt8.ofNat (48 + m)] else dec f (m / 10) ++ [UInt8.ofNat (48 + m % 10)]

/-- what Digits answers -/
def digs (n : Int) : List UInt8 := if n < 0 then 45 :: dec 20 n.natAbs else dec 20 n.natAbs

theorem dec_small {f r : Nat} (h : r < 10) : dec (f + 1) r = [UInt8.ofNat (48 + r)] := by simp [dec, h]
theorem dec_big {f r : Nat} (h : 10 ≤ r) : dec (f + 1) r = dec f (r / 10) ++ [UInt8.ofNat (48 + r % 10)] := by
  simp [dec, show ¬ r < 10 from by omega]

theorem dig_toNat (r : Nat) : (UInt8.ofNat (48 + r % 10)).toNat = 48 + r % 10 := by
  rw [UInt8.toNat_ofNat']; omega

/-- what stands behind j rounds: the rest r, and the digits acc that were told -/
def Told (m j r : Nat) (acc : List UInt8) : Prop :=
  acc.length = j ∧ j ≤ 19 ∧ r < 10 ^ (19 - j) ∧ (if 1 ≤ j ∧ r = 0 then dec 20 m = acc else dec 20 m = dec (20 - j) r ++ acc)

theorem told_start {m : Nat} (h : m < 10 ^ 19) : Told m 0 m [] := ⟨rfl, by omega, h, by simp⟩

theorem told_lt {m j r : Nat} {acc : List UInt8} (h : Told m j r acc) (hr : 0 < r ∨ j = 0) : j < 19 := by
  obtain ⟨_, h2, h3, _⟩ := h
  rcases hr with hr | hr
  · rcases Nat.lt_or_ge j 19 with h | h
    · exact h
    · have : 19 - j = 0 := by omega
      rw [this] at h3; simp at h3; omega
  · omega

theorem told_step {m j r : Nat} {acc : List UInt8} (h : Told m j r acc) (hr : 0 < r ∨ j = 0) : Told m (j + 1) (r / 10) (UInt8.ofNat (48 + r % 10) :: acc) := by
  have hlt := told_lt h hr
  obtain ⟨h1, h2, h3, h4⟩ := h
  have hn : ¬ (1 ≤ j ∧ r = 0) := by omega
  rw [if_neg hn] at h4
  have e1 : 19 - j = (18 - j) + 1 := by omega
  have e2 : 20 - j = (19 - j) + 1 := by omega
  refine ⟨by simp [h1], by omega, ?_, ?_⟩
  · rw [e1, Nat.pow_succ] at h3
    rw [show 19 - (j + 1) = 18 - j from by omega]
    omega
  · rw [e2] at h4
    by_cases hs : r < 10
    · rw [if_pos ⟨by omega, by omega⟩, h4, dec_small hs, Nat.mod_eq_of_lt hs]; rfl
    · rw [if_neg (by omega), h4, dec_big (by omega), show 20 - (j + 1) = 19 - j from by omega]
      simp

theorem told_end {m j r : Nat} {acc : List UInt8} (h : Told m j r acc) (hr : r = 0) (hj : j ≠ 0) : acc = dec 20 m := by
  obtain ⟨_, _, _, h4⟩ := h
  rw [if_pos ⟨by omega, hr⟩] at h4
  exact h4.symm

theorem dec_length : ∀ (f m : Nat), (dec f m).length ≤ f
  | 0, _ => by simp [dec]
  | f + 1, m => by
    unfold dec; split
    · simp
    · have := dec_length f (m / 10); simp; omega

theorem digs_length (n : Int) : (digs n).length ≤ 21 := by
  have := dec_length 20 n.natAbs
  unfold digs; split
  · simp; omega
  · omega

theorem small_toNat {m : Nat} (h : m < 10) : (UInt8.ofNat (48 + m)).toNat = 48 + m := by rw [UInt8.toNat_ofNat']; omega

theorem dec_fuel : ∀ (f m : Nat), m < 10 ^ (f + 1) → dec (f + 2) m = dec (f + 1) m
  | 0, m, h => by rw [dec_small (by simpa using h), dec_small (by simpa using h)]
  | f + 1, m, h => by
    by_cases hs : m < 10
    · rw [dec_small hs, dec_small hs]
    · have hm : 10 ≤ m := by omega
      rw [dec_big (f := f + 2) hm, dec_big (f := f + 1) hm, dec_fuel f (m / 10) (by rw [Nat.pow_succ] at h; omega)]

theorem dec_split {m : Nat} (h : 10 ≤ m) (hm : m < 10 ^ 20) : dec 20 m = dec 20 (m / 10) ++ dec 20 (m % 10) := by
  rw [dec_fuel 18 (m / 10) (by omega), dec_small (f := 19) (r := m % 10) (by omega), ← dec_big h]

theorem digs_neg_small {n : Int} {m : Nat} (hn : n = -(m : Int)) (h0 : 0 < m) : digs n = 45 :: dec 20 m := by
  unfold digs
  rw [if_pos (by omega), show n.natAbs = m from by omega]

end Go.Proofs.YtimhgbcanmgajaaGreat

namespace Go.Proofs.YtimhgbcanmgajaaGreat
open Go.RowKit

def truthB (k n : Int) : Bool := !(k == 0) && (!(k == 1) || !(n == 0))
def countsB (k n : Int) : Bool :=
  if k = 0 then n == 0 else if k = 1 then n == 0 || n == 1 else if k = 2 then decide (-4611686018427387904 ≤ n) && decide (n ≤ 4611686018427387903)
  else if k = 4 then decide (1 ≤ n) else if k = 5 then decide (0 ≤ n) else false
def rightB (k n : Int) (l : List UInt8) : Bool := if k = 3 then n == 0 && decide (l.length ≤ 256) else decide (l = []) && countsB k n
def alike (k n : Int) (l : List UInt8) (k' n' : Int) (l' : List UInt8) : Bool := k == k' && (n == n' && l == l')

def showB (k n : Int) (l : List UInt8) : List UInt8 :=
  if k = 0 then [110, 117, 108, 108] else if k = 1 then (if n = 0 then [102, 97, 108, 115, 101] else [116, 114, 117, 101]) else if k = 2 then digs n
  else if k = 3 then l else if k = 4 then [111, 98, 106, 101, 99, 116] else if k = 5 then [102, 117, 110, 99, 116, 105, 111, 110] else []
def printB (k n : Int) (l : List UInt8) : List UInt8 :=
  if k = 3 then quoted l else if k = 4 then 35 :: digs n else if k = 5 then 38 :: digs n else showB k n l

theorem vright_of {k n lo hi : Int} {l : List UInt8} (hk : k ≠ 3) (h : countsB k n = (decide (lo ≤ n) && decide (n ≤ hi))) : rightB k n l = (decide (lo ≤ n) && (decide (n ≤ hi) && decide (l = []))) := by
  unfold rightB
  rw [if_neg hk, h, Bool.and_comm, Bool.and_assoc]
theorem counts0 (n : Int) : countsB 0 n = (decide (0 ≤ n) && decide (n ≤ 0)) := by
  show (n == 0) = _; rw [Bool.eq_iff_iff]; simp; omega
theorem counts1 (n : Int) : countsB 1 n = (decide (0 ≤ n) && decide (n ≤ 1)) := by
  show (n == 0 || n == 1) = _; rw [Bool.eq_iff_iff]; simp; omega
theorem counts2 (n : Int) : countsB 2 n = (decide (-4611686018427387904 ≤ n) && decide (n ≤ 4611686018427387903)) := rfl
theorem counts4 (n : Int) (h : n ≤ 9223372036854775807) : countsB 4 n = (decide (1 ≤ n) && decide (n ≤ 9223372036854775807)) := by
  show decide (1 ≤ n) = _; rw [decide_eq_true h, Bool.and_true]
theorem counts5 (n : Int) (h : n ≤ 9223372036854775807) : countsB 5 n = (decide (0 ≤ n) && decide (n ≤ 9223372036854775807)) := by
  show decide (0 ≤ n) = _; rw [decide_eq_true h, Bool.and_true]

end Go.Proofs.YtimhgbcanmgajaaGreat
