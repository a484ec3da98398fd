/- What text.Take answers, for any text: its reader's larger methods, and Take. -/
import Derived.Test.YtnojlfdojmkonaaGreatDoorTxtTake
namespace Go.Proofs.YtnojlfdojmkonaaGreatDoor
open Go.RowKit

/-- the two digits behind a x -/
def numOf : List UInt8 → Option UInt8 × Nat
  | [] => (none, 0)
  | x :: r => if worthN x.toNat = 16 then (none, 0) else
    match r with
    | [] => (none, 1)
    | y :: _ => if worthN y.toNat = 16 then (none, 1) else (some (UInt8.ofNat (16 * worthN x.toNat + worthN y.toNat)), 2)
/-- what is behind a mark -/
def markOf : List UInt8 → Option UInt8 × Nat
  | [] => (none, 0)
  | d :: r => if d.toNat = 34 ∨ d.toNat = 92 then (some d, 1) else if d.toNat ≠ 120 then (none, 0) else ((numOf r).1, (numOf r).2 + 1)

theorem oneOf_mark {c : UInt8} {r : List UInt8} (hc : c.toNat = 92) : oneOf (c :: r) = ((markOf r).1, (markOf r).2 + 1) := by
  have hp : plainN 92 = false := by decide
  simp only [oneOf, hc, hp]
  rw [if_neg (by decide), if_neg (by decide)]
  cases r with
  | nil => rfl
  | cons d r2 =>
    simp only [markOf]
    split
    · rfl
    · split
      · rfl
      · cases r2 with
        | nil => rfl
        | cons x r3 =>
          simp only [numOf]
          split
          · rfl
          · cases r3 with
            | nil => rfl
            | cons y r4 =>
              simp only []
              split <;> rfl

def nval (xs : List UInt8) : Nat := xs.foldl (fun a x => 16 * a + worthN x.toNat) 0

/-- the digits that were read, and the rest -/
structure Nums (l xs rest : List UInt8) (j : Nat) : Prop where
  len : xs.length = j
  all : l = xs ++ rest
  good : ∀ x ∈ xs, worthN x.toNat ≠ 16

theorem nums_start (l : List UInt8) : Nums l [] l 0 := ⟨rfl, rfl, by simp⟩
theorem nums_step {l xs rest : List UInt8} {j : Nat} {x : UInt8} (h : Nums l xs (x :: rest) j) (hx : worthN x.toNat ≠ 16) : Nums l (xs ++ [x]) rest (j + 1) :=
  ⟨by simp [h.len], by simp [h.all], by intro y hy; rcases List.mem_append.1 hy with h1 | h1; exact h.good y h1; simp at h1; subst h1; exact hx⟩
theorem nums_bad {l xs rest : List UInt8} {j : Nat} (h : Nums l xs rest j) (hj : j < 2) (hb : worthN (lookN rest) = 16) : numOf l = (none, j) := by
  have hl := h.len
  have hg := h.good
  rw [h.all]
  match xs, hl with
  | [], hl =>
    subst hl
    cases rest with
    | nil => rfl
    | cons x r => simp [lookN] at hb; simp [numOf, hb]
  | [x], hl =>
    subst hl
    have hx := hg x (by simp)
    cases rest with
    | nil => simp [numOf, hx]
    | cons y r => simp [lookN] at hb; simp [numOf, hx, hb]
  | _ :: _ :: _, hl => simp at hl; omega
theorem nums_end {l xs rest : List UInt8} (h : Nums l xs rest 2) : numOf l = (some (UInt8.ofNat (nval xs)), 2) ∧ nval xs < 256 := by
  have hl := h.len
  have hg := h.good
  rw [h.all]
  match xs, hl with
  | [x, y], _ =>
    have hx := hg x (by simp)
    have hy := hg y (by simp)
    have h1 := worthN_le x.toNat
    have h2 := worthN_le y.toNat
    constructor
    · simp [numOf, hx, hy, nval]
    · simp [nval]; omega
theorem nval_small {l xs rest : List UInt8} {j : Nat} (h : Nums l xs rest j) (hj : j < 2) : nval xs < 16 := by
  have hl := h.len
  have hg := h.good
  match xs, hl with
  | [], _ => simp [nval]
  | [x], _ =>
    have hx := hg x (by simp)
    have h1 := worthN_le x.toNat
    simp [nval]; omega
  | _ :: _ :: _, hl => simp at hl; omega
theorem nval_snoc (xs : List UInt8) (x : UInt8) : nval (xs ++ [x]) = 16 * nval xs + worthN x.toNat := by simp [nval]

theorem wok_no {n : Nat} (h : wok n = false) : worthN n = 16 := by simpa [wok] using h
theorem wok_yes {n : Nat} (h : wok n = true) : worthN n ≠ 16 ∧ wval n = worthN n := by
  have h1 : worthN n ≠ 16 := by simpa [wok] using h
  exact ⟨h1, by simp [wval, h1]⟩
theorem wok_zero : wok 0 = false := by decide

theorem or_digit {m v : Nat} (hm : m < 16) (hv : v < 16) : bits BinOp.or IntKind.u8 ((m : Int) * 16) (v : Int) = ((16 * m + v : Nat) : Int) := by
  have h : ∀ m v : Fin 16, bits BinOp.or IntKind.u8 ((m.val : Int) * 16) (v.val : Int) = ((16 * m.val + v.val : Nat) : Int) := by decide +kernel
  exact h ⟨m, hm⟩ ⟨v, hv⟩

theorem ofNat_toNat {n : Nat} (h : n < 256) : (UInt8.ofNat n).toNat = n := by
  rw [UInt8.toNat_ofNat']; omega

set_option maxHeartbeats 1600000 in
set_option maxRecDepth 100000 in
theorem tnumber_calls (s : ByteArray) (hs : s.size ≤ 1000000) (B b k : Nat) (acc : List UInt8) (hk : k ≤ s.size) (ha : acc.length ≤ 1000000) (w : World) (h : Rdr s B b k acc w) (o : Option UInt8) (n : Nat) (ho : numOf (s.data.toList.drop k) = (o, n)) :
    Calls Tryz.prog 119 #[.pointer (some ⟨b, 0, none⟩)] w fun e w' => e = .returned (.bool o.isSome) ∧ Rdr s B b (k + n) (acc ++ o.toList) w' ∧ Below B w w' := by
  have HR := hid h
  have HO := hid ho
  have hF := fits_reader
  clear h ho
  go_enter Tryz.func119, Tryz.ntmps119
  go_wp2_with fail
  go_loopw [3, 4, 5, 6] (fun v _ _ i wr => ∃ (j m : Nat) (xs : List UInt8), j ≤ 2 ∧ k + j ≤ s.size ∧ i = .int .i64 (j : Int) ∧ v = .int .u8 (m : Int) ∧ m = nval xs ∧ Nums (s.data.toList.drop k) xs (s.data.toList.drop (k + j)) j ∧ Rdr s B b (k + j) acc wr ∧ Below B w wr) (fun _ _ _ i _ => 2 - (intOf i).toNat)
  case atStart => exact ⟨0, 0, [], by omega, by omega, rfl, rfl, rfl, nums_start _, HR.out, Below.refl _ _⟩
  case round =>
    clear HR
    obtain ⟨j, m, xs, hj, hkj, rfl, rfl, hm, hN, hR, hB⟩ := hrel
    have HN := hid hN
    have HR := hid hR
    have HB := hid hB
    have HM := hid hm
    clear hN hR hB hm
    by_cases hj2 : j < 2
    · have hm16 : m < 16 := by rw [HM.out]; exact nval_small HN.out hj2
      go_wp2_with fail
      refine (look_calls s B b (k + j) acc hkj _ HR.out).mono ?_
      rintro e w1 ⟨rfl, h1, b1⟩
      have H1 := hid h1
      have B1 := hid (HB.out.trans b1)
      clear h1 b1
      go_wp2_with fail
      refine (worth_calls _ _).mono ?_
      rintro e w2 ⟨rfl, rfl⟩
      cases hok : wok (lookN (s.data.toList.drop (k + j)))
      · have H := hid (nums_bad HN.out hj2 (wok_no hok))
        generalize lookN (s.data.toList.drop (k + j)) = c at *
        go_wp2
        go_ret
        have hoo := H.out.symm.trans HO.out
        simp only [Prod.mk.injEq] at hoo
        obtain ⟨rfl, rfl⟩ := hoo
        exact ⟨rfl, by simpa using H1.out, B1.out⟩
      · have hkl : k + j < s.size := by
          rcases Nat.lt_or_ge (k + j) s.size with h' | h'
          · exact h'
          · rw [drop_end s _ h'] at hok
            simp [lookN, wok_zero] at hok
        have hd := drop_byte s (k + j) hkl
        have hlk : lookN (s.data.toList.drop (k + j)) = s[k + j].toNat := by rw [hd]; rfl
        have hstep := HN.out
        rw [hd] at hstep
        rw [hlk] at hok
        have HS := hid (nums_step hstep (wok_yes hok).1)
        have Hv := hid (show wval s[k + j].toNat = worthN s[k + j].toNat from (wok_yes hok).2)
        have hv16 : wval s[k + j].toNat < 16 := by
          rw [(wok_yes hok).2]
          have := worthN_le s[k + j].toNat
          have := (wok_yes hok).1
          omega
        have HV := hid (nval_snoc xs s[k + j])
        rw [hlk]
        clear hd hlk hstep
        have ca := H1.out.at
        have fa : w1.frozen? ⟨b, 3, none⟩ = false := Has.free H1.out 3
        have Hor := hid (or_digit hm16 hv16)
        go_wp2
        refine ⟨⟨j + 1, 16 * m + wval s[k + j].toNat, xs ++ [s[k + j]], by omega, by omega, by go_num, by rw [Hor.out], ?_, ?_, ?_, ?_⟩, ?_⟩
        · rw [HV.out, Hv.out, HM.out]
        · exact HS.out
        · exact H1.out.on _ (by go_num)
        · exact B1.out.setCell (p := ⟨b, 3, none⟩) H1.out.low _
        · simp [intOf]; omega
    · have hj3 : j = 2 := by omega
      subst hj3
      obtain ⟨he, hlt⟩ := nums_end HN.out
      have hoo := he.symm.trans HO.out
      simp only [Prod.mk.injEq] at hoo
      obtain ⟨rfl, rfl⟩ := hoo
      have Hlt := hid hlt
      clear he hlt
      go_wp2_with fail
      refine (writeByte_calls _ _ _ _ acc (UInt8.ofNat (nval xs)) _ (by rw [HM.out, ofNat_toNat Hlt.out]) _ HR.out hF (by omega) HR.out.size).mono ?_
      rintro e w3 ⟨rfl, h3, b3⟩
      have H3 := hid h3
      have B3 := hid (HB.out.trans b3)
      clear h3 b3
      go_wp2
      go_ret
      exact ⟨rfl, H3.out, B3.out⟩

set_option maxRecDepth 100000 in
theorem marked_calls (s : ByteArray) (hs : s.size ≤ 1000000) (B b k : Nat) (acc : List UInt8) (hk : k ≤ s.size) (ha : acc.length ≤ 1000000) (w : World) (h : Rdr s B b k acc w) (o : Option UInt8) (n : Nat) (ho : markOf (s.data.toList.drop k) = (o, n)) :
    Calls Tryz.prog 114 #[.pointer (some ⟨b, 0, none⟩)] w fun e w' => e = .returned (.bool o.isSome) ∧ Rdr s B b (k + n) (acc ++ o.toList) w' ∧ Below B w w' := by
  have HR := hid h
  have hF := fits_reader
  clear h
  by_cases h120 : lookN (s.data.toList.drop k) = 120
  · have hkl : k < s.size := by
      rcases Nat.lt_or_ge k s.size with h' | h'
      · exact h'
      · rw [drop_end s k h'] at h120; simp [lookN] at h120
    have hd := drop_byte s k hkl
    have hc : s[k].toNat = 120 := by rw [hd] at h120; exact h120
    have ho2 : ∃ n', n = n' + 1 ∧ numOf (s.data.toList.drop (k + 1)) = (o, n') := by
      rw [hd] at ho
      simp only [markOf, hc] at ho
      rw [if_neg (by decide), if_neg (by decide)] at ho
      simp only [Prod.mk.injEq] at ho
      exact ⟨_, ho.2.symm, by rw [← ho.1]⟩
    obtain ⟨n', rfl, hn'⟩ := ho2
    have HN := hid hn'
    have H120 := hid h120
    clear hd hc ho hn' h120
    go_enter Tryz.func114, Tryz.ntmps114
    go_wp2_with fail
    refine (skip_yes s hs B b k acc 120 hk _ HR.out H120.out).mono ?_
    rintro e w1 ⟨rfl, h1, b1⟩
    have H1 := hid h1
    have B1 := hid b1
    clear h1 b1
    go_wp2_with fail
    refine (tnumber_calls s hs B b (k + 1) acc hkl ha _ H1.out o n' HN.out).mono ?_
    rintro e w2 ⟨rfl, h2, b2⟩
    have H2 := hid h2
    have B2 := hid (B1.out.trans b2)
    clear h2 b2
    go_wp2
    go_ret
    exact ⟨rfl, by rw [show k + (n' + 1) = k + 1 + n' from by omega]; exact H2.out, B2.out⟩
  · have H120 := hid h120
    by_cases h34 : lookN (s.data.toList.drop k) = 34
    · have hkl : k < s.size := by
        rcases Nat.lt_or_ge k s.size with h' | h'
        · exact h'
        · rw [drop_end s k h'] at h34; simp [lookN] at h34
      have hd := drop_byte s k hkl
      have hc : s[k].toNat = 34 := by rw [hd] at h34; exact h34
      have ho2 : o = some 34 ∧ n = 1 := by
        rw [hd] at ho
        simp only [markOf, hc] at ho
        rw [if_pos (by decide)] at ho
        simp only [Prod.mk.injEq] at ho
        exact ⟨by rw [← ho.1, show s[k] = 34 from UInt8.toNat_inj.1 hc], ho.2.symm⟩
      obtain ⟨rfl, rfl⟩ := ho2
      have H34 := hid h34
      clear hd hc ho h34 h120
      go_enter Tryz.func114, Tryz.ntmps114
      go_wp2_with fail
      refine (skip_no s B b k acc 120 hk _ HR.out H120.out).mono ?_
      rintro e w1 ⟨rfl, h1, b1⟩
      have H1 := hid h1
      have B1 := hid b1
      clear h1 b1
      go_wp2_with fail
      refine (skip_yes s hs B b k acc 34 hk _ H1.out H34.out).mono ?_
      rintro e w2 ⟨rfl, h2, b2⟩
      have H2 := hid h2
      have B2 := hid (B1.out.trans b2)
      clear h2 b2
      go_wp2_with fail
      refine (writeByte_calls _ _ _ _ acc 34 _ rfl _ H2.out hF (by omega) H2.out.size).mono ?_
      rintro e w3 ⟨rfl, h3, b3⟩
      have H3 := hid h3
      have B3 := hid (B2.out.trans b3)
      clear h3 b3
      go_wp2
      go_ret
      exact ⟨rfl, H3.out, B3.out⟩
    · have H34 := hid h34
      by_cases h92 : lookN (s.data.toList.drop k) = 92
      · have hkl : k < s.size := by
          rcases Nat.lt_or_ge k s.size with h' | h'
          · exact h'
          · rw [drop_end s k h'] at h92; simp [lookN] at h92
        have hd := drop_byte s k hkl
        have hc : s[k].toNat = 92 := by rw [hd] at h92; exact h92
        have ho2 : o = some 92 ∧ n = 1 := by
          rw [hd] at ho
          simp only [markOf, hc] at ho
          rw [if_pos (by decide)] at ho
          simp only [Prod.mk.injEq] at ho
          exact ⟨by rw [← ho.1, show s[k] = 92 from UInt8.toNat_inj.1 hc], ho.2.symm⟩
        obtain ⟨rfl, rfl⟩ := ho2
        have H92 := hid h92
        clear hd hc ho h34 h120 h92
        go_enter Tryz.func114, Tryz.ntmps114
        go_wp2_with fail
        refine (skip_no s B b k acc 120 hk _ HR.out H120.out).mono ?_
        rintro e w1 ⟨rfl, h1, b1⟩
        have H1 := hid h1
        have B1 := hid b1
        clear h1 b1
        go_wp2_with fail
        refine (skip_no s B b k acc 34 hk _ H1.out H34.out).mono ?_
        rintro e w1a ⟨rfl, h1a, b1a⟩
        have H1a := hid h1a
        have B1a := hid (B1.out.trans b1a)
        clear h1a b1a
        go_wp2_with fail
        refine (skip_yes s hs B b k acc 92 hk _ H1a.out H92.out).mono ?_
        rintro e w2 ⟨rfl, h2, b2⟩
        have H2 := hid h2
        have B2 := hid (B1a.out.trans b2)
        clear h2 b2
        go_wp2_with fail
        refine (writeByte_calls _ _ _ _ acc 92 _ rfl _ H2.out hF (by omega) H2.out.size).mono ?_
        rintro e w3 ⟨rfl, h3, b3⟩
        have H3 := hid h3
        have B3 := hid (B2.out.trans b3)
        clear h3 b3
        go_wp2
        go_ret
        exact ⟨rfl, H3.out, B3.out⟩
      · have ho2 : o = none ∧ n = 0 := by
          cases hd : s.data.toList.drop k with
          | nil => rw [hd] at ho; simp [markOf] at ho; exact ⟨ho.1.symm, ho.2.symm⟩
          | cons c r =>
            rw [hd] at ho h120 h34 h92
            simp only [lookN] at h120 h34 h92
            simp only [markOf] at ho
            rw [if_neg (by omega), if_pos h120] at ho
            simp only [Prod.mk.injEq] at ho
            exact ⟨ho.1.symm, ho.2.symm⟩
        obtain ⟨rfl, rfl⟩ := ho2
        have H92 := hid h92
        clear ho h34 h120 h92
        go_enter Tryz.func114, Tryz.ntmps114
        go_wp2_with fail
        refine (skip_no s B b k acc 120 hk _ HR.out H120.out).mono ?_
        rintro e w1 ⟨rfl, h1, b1⟩
        have H1 := hid h1
        have B1 := hid b1
        clear h1 b1
        go_wp2_with fail
        refine (skip_no s B b k acc 34 hk _ H1.out H34.out).mono ?_
        rintro e w1a ⟨rfl, h1a, b1a⟩
        have H1a := hid h1a
        have B1a := hid (B1.out.trans b1a)
        clear h1a b1a
        go_wp2_with fail
        refine (skip_no s B b k acc 92 hk _ H1a.out H92.out).mono ?_
        rintro e w2 ⟨rfl, h2, b2⟩
        have H2 := hid h2
        have B2 := hid (B1a.out.trans b2)
        clear h2 b2
        go_wp2
        go_ret
        exact ⟨rfl, by simpa using H2.out, B2.out⟩

set_option maxRecDepth 100000 in
theorem one_calls (s : ByteArray) (hs : s.size ≤ 1000000) (B b k : Nat) (acc : List UInt8) (hk : k ≤ s.size) (ha : acc.length ≤ 1000000) (w : World) (h : Rdr s B b k acc w) (o : Option UInt8) (n : Nat) (ho : oneOf (s.data.toList.drop k) = (o, n)) :
    Calls Tryz.prog 105 #[.pointer (some ⟨b, 0, none⟩)] w fun e w' => e = .returned (.bool o.isSome) ∧ Rdr s B b (k + n) (acc ++ o.toList) w' ∧ Below B w w' := by
  have HR := hid h
  have hF := fits_reader
  clear h
  by_cases h92 : lookN (s.data.toList.drop k) = 92
  · have hkl : k < s.size := by
      rcases Nat.lt_or_ge k s.size with h' | h'
      · exact h'
      · rw [drop_end s k h'] at h92; simp [lookN] at h92
    have hd := drop_byte s k hkl
    have hc : s[k].toNat = 92 := by rw [hd] at h92; exact h92
    have ho2 : ∃ n', n = n' + 1 ∧ markOf (s.data.toList.drop (k + 1)) = (o, n') := by
      rw [hd, oneOf_mark hc] at ho
      simp only [Prod.mk.injEq] at ho
      exact ⟨_, ho.2.symm, by rw [← ho.1]⟩
    obtain ⟨n', rfl, hn'⟩ := ho2
    have HN := hid hn'
    have H92 := hid h92
    clear hd hc ho hn' h92
    go_enter Tryz.func105, Tryz.ntmps105
    go_wp2_with fail
    refine (skip_yes s hs B b k acc 92 hk _ HR.out H92.out).mono ?_
    rintro e w1 ⟨rfl, h1, b1⟩
    have H1 := hid h1
    have B1 := hid b1
    clear h1 b1
    go_wp2_with fail
    refine (marked_calls s hs B b (k + 1) acc hkl ha _ H1.out o n' HN.out).mono ?_
    rintro e w2 ⟨rfl, h2, b2⟩
    have H2 := hid h2
    have B2 := hid (B1.out.trans b2)
    clear h2 b2
    go_wp2
    go_ret
    exact ⟨rfl, by rw [show k + (n' + 1) = k + 1 + n' from by omega]; exact H2.out, B2.out⟩
  · have H92 := hid h92
    by_cases hp : plainN (lookN (s.data.toList.drop k))
    · have hkl : k < s.size := by
        rcases Nat.lt_or_ge k s.size with h' | h'
        · exact h'
        · rw [drop_end s k h'] at hp; simp [lookN, plainN] at hp
      have hd := drop_byte s k hkl
      have hlk : lookN (s.data.toList.drop k) = s[k].toNat := by rw [hd]; rfl
      have hc : plainN s[k].toNat = true := by rw [← hlk]; exact hp
      have ho2 : o = some s[k] ∧ n = 1 := by
        rw [hd] at ho
        simp only [oneOf] at ho
        rw [if_pos hc] at ho
        simp only [Prod.mk.injEq] at ho
        exact ⟨ho.1.symm, ho.2.symm⟩
      obtain ⟨rfl, rfl⟩ := ho2
      have HL := hid hlk
      clear hd ho h92 hlk
      go_enter Tryz.func105, Tryz.ntmps105
      go_wp2_with fail
      refine (skip_no s B b k acc 92 hk _ HR.out H92.out).mono ?_
      rintro e w1 ⟨rfl, h1, b1⟩
      have H1 := hid h1
      have B1 := hid b1
      clear h1 b1
      go_wp2_with fail
      refine (look_calls s B b k acc hk _ H1.out).mono ?_
      rintro e w2 ⟨rfl, h2, b2⟩
      rw [HL.out]
      have H2 := hid h2
      have B2 := hid (B1.out.trans b2)
      have ca := h2.at
      have fa : w2.frozen? ⟨b, 3, none⟩ = false := Has.free h2 3
      clear h2 b2 hp
      go_wp2_with fail
      refine (plain_calls s[k].toNat _).mono ?_
      rintro e w3 ⟨rfl, rfl⟩
      have H3 := hid (H2.out.on ((k : Int) + 1) (by omega))
      have B3 := hid (B2.out.setCell (p := ⟨b, 3, none⟩) H2.out.low (.int .i64 ((k : Int) + 1)))
      go_wp2_with fail
      refine (writeByte_calls _ _ _ _ acc s[k] _ rfl _ H3.out hF (by omega) H3.out.size).mono ?_
      rintro e w4 ⟨rfl, h4, b4⟩
      have H4 := hid h4
      have B4 := hid (B3.out.trans b4)
      clear h4 b4
      go_wp2
      go_ret
      exact ⟨rfl, H4.out, B4.out⟩
    · have ho2 : o = none ∧ n = 0 := by
        cases hd : s.data.toList.drop k with
        | nil => rw [hd] at ho; simp [oneOf] at ho; exact ⟨ho.1.symm, ho.2.symm⟩
        | cons c r =>
          rw [hd] at ho h92 hp
          simp only [lookN] at h92 hp
          simp only [oneOf] at ho
          rw [if_neg hp, if_pos h92] at ho
          simp only [Prod.mk.injEq] at ho
          exact ⟨ho.1.symm, ho.2.symm⟩
      obtain ⟨rfl, rfl⟩ := ho2
      clear ho h92
      go_enter Tryz.func105, Tryz.ntmps105
      go_wp2_with fail
      refine (skip_no s B b k acc 92 hk _ HR.out H92.out).mono ?_
      rintro e w1 ⟨rfl, h1, b1⟩
      have H1 := hid h1
      have B1 := hid b1
      clear h1 b1
      go_wp2_with fail
      refine (look_calls s B b k acc hk _ H1.out).mono ?_
      rintro e w2 ⟨rfl, h2, b2⟩
      have H2 := hid h2
      have B2 := hid (B1.out.trans b2)
      clear h2 b2
      go_wp2_with fail
      refine (plain_calls _ _).mono ?_
      rintro e w3 ⟨rfl, rfl⟩
      go_wp2
      go_ret
      exact ⟨rfl, by simpa using H2.out, B2.out⟩

end Go.Proofs.YtnojlfdojmkonaaGreatDoor
