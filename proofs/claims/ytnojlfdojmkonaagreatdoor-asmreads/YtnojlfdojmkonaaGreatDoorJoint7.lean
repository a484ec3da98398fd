/- Programs of instructions as texts: how they are written, how they are read, plainly; numbers and words come back. May a program's sizes be: the program's word. -/
import Derived.Test.YtnojlfdojmkonaaGreatDoorJoint2
import Derived.Test.YtnojlfdojmkonaaGreatDoorJoint4
import Derived.Test.YtnojlfdojmkonaaGreatDoorJoint1
import Derived.Test.YtnojlfdojmkonaaGreatDoorTxtPlain
import Derived.Test.YtnojlfdojmkonaaGreatDoorJoint6
namespace Go.Proofs.YtnojlfdojmkonaaGreatDoor
set_option linter.unusedVariables false
open Go.RowKit

/-- names of instructions -/
def asmW : List (List UInt8) := [[116, 105, 99, 107], [110, 117, 108, 108], [98, 111, 111, 108], [105, 110, 116], [115, 116, 114], [116, 104, 105, 115], [102, 117, 110], [108, 111, 99, 97, 108], [115, 101, 116, 108, 111, 99, 97, 108], [103, 108, 111, 98, 97, 108], [115, 101, 116, 103, 108, 111, 98, 97, 108], [110, 101, 119], [105, 110, 105, 116], [103, 101, 116], [115, 101, 116], [103, 101, 116, 105, 120], [115, 101, 116, 105, 120], [100, 101, 108], [100, 101, 108, 105, 120], [117, 110], [98, 105, 110], [106, 117, 109, 112], [106, 117, 109, 112, 110, 111, 116], [97, 110, 100], [111, 114], [99, 97, 108, 108], [109, 101, 116, 104], [99, 97, 108, 108, 109], [98, 117, 105, 108, 116], [112, 114, 105, 110, 116], [112, 111, 112], [114, 101, 116]]
def opW (o : Int) : List UInt8 := if 1 ≤ o ∧ o ≤ 32 then asmW.getD (o - 1).toNat [] else []
/-- how many numbers an instruction has -/
def prtN (o : Int) : Nat := if o = 2 ∨ o = 6 ∨ o = 12 ∨ o = 16 ∨ o = 17 ∨ o = 19 ∨ o = 30 ∨ o = 31 ∨ o = 32 then 0 else if o = 13 ∨ o = 14 ∨ o = 15 ∨ o = 27 then 2 else 1
/-- a word, and numbers -/
def lnP (w : List UInt8) (ns : List Int) : List UInt8 := w ++ ns.flatMap fun n => 32 :: digs n
def insP (x : In) : List UInt8 := lnP (opW x.1) ([x.2.1, x.2.2].take (prtN x.1))
def gloW : List UInt8 := [103, 108, 111, 98, 97, 108, 115]
def codW : List UInt8 := [99, 111, 100, 101]
def polW : List UInt8 := [112, 111, 111, 108, 32]
def cdL (c : Cd) : List (List UInt8) := lnP codW [c.p, c.l, c.s, c.d] :: c.ins.map insP
/-- a program's lines -/
def pgL (g : Int) (pool : List ByteArray) (codes : List Cd) : List (List UInt8) := lnP gloW [g] :: (pool.map (fun s => polW ++ quoted s.data.toList) ++ codes.flatMap cdL)
/-- lines as a text -/
def txL (ls : List (List UInt8)) : List UInt8 := ls.flatMap fun l => l ++ [10]

/-- what stands between bytes -/
def splitP (b : UInt8) : List UInt8 → List (List UInt8)
  | [] => [[]]
  | c :: r => if c = b then [] :: splitP b r else ((c :: (splitP b r).headD []) :: (splitP b r).tail)
theorem split_ne (b : UInt8) : ∀ l, splitP b l ≠ []
  | [] => by simp [splitP]
  | c :: r => by unfold splitP; split <;> simp
/-- joined again -/
def joinB (b : UInt8) : List (List UInt8) → List UInt8
  | [] => []
  | [x] => x
  | x :: y :: r => x ++ b :: joinB b (y :: r)
theorem join_split (b : UInt8) : ∀ l, joinB b (splitP b l) = l
  | [] => rfl
  | c :: r => by
    have ih := join_split b r
    unfold splitP
    cases hs : splitP b r with
    | nil => exact absurd hs (split_ne b r)
    | cons x t =>
      rw [hs] at ih
      split
      · rename_i h
        rw [joinB, ih, h]; rfl
      · simp only [List.headD_cons, List.tail_cons]
        cases t with
        | nil => rw [joinB] at ih ⊢; rw [ih]
        | cons y r' => rw [joinB] at ih ⊢; rw [List.cons_append, ih]
theorem split_none {b : UInt8} : ∀ {l : List UInt8}, (∀ x ∈ l, x ≠ b) → splitP b l = [l]
  | [], _ => rfl
  | c :: r, h => by
    unfold splitP
    rw [if_neg (h c (by simp)), split_none (fun x hx => h x (by simp [hx]))]
    rfl
theorem split_app {b : UInt8} : ∀ {l : List UInt8} (r : List UInt8), (∀ x ∈ l, x ≠ b) → splitP b (l ++ b :: r) = l :: splitP b r
  | [], r, _ => by
    show splitP b (b :: r) = _
    rw [splitP, if_pos rfl]
  | c :: l, r, h => by
    rw [List.cons_append, splitP, if_neg (h c (by simp)), split_app r (fun x hx => h x (by simp [hx]))]
    rfl
theorem split_clean {b : UInt8} : ∀ {l : List UInt8}, ∀ x ∈ splitP b l, ∀ c ∈ x, c ≠ b
  | [], x, hx, c, hc => by
    simp [splitP] at hx
    subst hx; cases hc
  | d :: r, x, hx, c, hc => by
    have ih := split_clean (b := b) (l := r)
    unfold splitP at hx
    split at hx
    · rcases List.mem_cons.1 hx with rfl | hx
      · cases hc
      · exact ih x hx c hc
    · rename_i hd
      cases hs : splitP b r with
      | nil => exact absurd hs (split_ne b r)
      | cons y t =>
        rw [hs] at hx ih
        rcases List.mem_cons.1 hx with rfl | hx
        · rcases List.mem_cons.1 hc with rfl | hc
          · exact hd
          · exact ih y (by simp) c (by simpa using hc)
        · exact ih x (by simp at hx ⊢; exact .inr hx) c hc
/-- a number as it is written -/
def numP (s : List UInt8) : Option Int :=
  if s = digs (-4611686018427387904) then some (-4611686018427387904)
  else if (readOut (if s.head? = some 45 then s.tail else s)).2 = 0 ∧ digs (if s.head? = some 45 then -(readOut (if s.head? = some 45 then s.tail else s)).1 else (readOut (if s.head? = some 45 then s.tail else s)).1) = s
    then some (if s.head? = some 45 then -(readOut (if s.head? = some 45 then s.tail else s)).1 else (readOut (if s.head? = some 45 then s.tail else s)).1) else none
def rngP (n : Int) : Prop := -4611686018427387904 ≤ n ∧ n ≤ 4611686018427387903
theorem read_range {l : List UInt8} (h : (readOut l).2 = 0) : 0 ≤ (readOut l).1 ∧ (readOut l).1 ≤ 4611686018427387903 := by
  unfold readOut at h ⊢
  split
  · simp
  · rename_i hc
    simp at hc
    have := rst_bounds l (by simpa using hc.2)
    unfold rout
    split
    · simp
    · exact this
theorem num_iff {s : List UInt8} {n : Int} : numP s = some n ↔ rngP n ∧ digs n = s := by
  unfold numP rngP
  constructor
  · intro h
    have hb : ∀ q : Int × Int, (q.2 = 0 → 0 ≤ q.1 ∧ q.1 ≤ 4611686018427387903) → ∀ (P : Prop) [Decidable P], (if q.2 = 0 ∧ digs (if P then -q.1 else q.1) = s then some (if P then -q.1 else q.1) else none) = some n → (-4611686018427387904 ≤ n ∧ n ≤ 4611686018427387903) ∧ digs n = s := by
      intro q hq P _ h
      by_cases hc : q.2 = 0 ∧ digs (if P then -q.1 else q.1) = s
      · rw [if_pos hc] at h
        have e := Option.some.inj h
        have := hq hc.1
        rw [← e]
        exact ⟨by split <;> omega, hc.2⟩
      · rw [if_neg hc] at h; cases h
    by_cases hs : s = digs (-4611686018427387904)
    · rw [if_pos hs] at h
      have e := Option.some.inj h
      subst e
      exact ⟨by omega, hs.symm⟩
    · rw [if_neg hs] at h
      exact hb _ read_range _ h
  · rintro ⟨hr, rfl⟩
    by_cases hL : n = -4611686018427387904
    · subst hL; rw [if_pos rfl]
    · have hne : digs n ≠ digs (-4611686018427387904) := fun e => hL (digs_inj (by omega) (by omega) e)
      rw [if_neg hne]
      by_cases h0 : 0 ≤ n
      · obtain ⟨c, r, e, h1⟩ := digs_head n
        have hh : (digs n).head? ≠ some 45 := by
          unfold digs
          rw [if_neg (by omega)]
          obtain ⟨c, r, e, h1, h2⟩ := dec_head 19 n.natAbs
          rw [e]
          simp
          intro hc
          subst hc
          exact absurd h1 (by decide)
        rw [if_neg hh, if_neg hh, back_in h0 (by omega)]
        simp
      · have hd : digs n = 45 :: digs (-n) := by
          unfold digs
          rw [if_pos (by omega), if_neg (by omega), Int.natAbs_neg]
        have hh : (digs n).head? = some 45 := by rw [hd]; rfl
        have ht : (digs n).tail = digs (-n) := by rw [hd]; rfl
        rw [if_pos hh, if_pos hh, ht, back_in (by omega) (by omega)]
        simp
theorem digs_clean (n : Int) : ∀ x ∈ digs n, 45 ≤ x.toNat ∧ x.toNat ≤ 57 := by
  have hd : ∀ m, ∀ x ∈ dec 20 m, 45 ≤ x.toNat ∧ x.toNat ≤ 57 := fun m x hx => by
    have := List.all_eq_true.1 (dec_all 20 m) x hx
    simp [isDig] at this
    omega
  intro x hx
  unfold digs at hx
  split at hx
  · rcases List.mem_cons.1 hx with rfl | hx
    · decide
    · exact hd _ x hx
  · exact hd _ x hx
theorem digs_no {b : UInt8} (hb : b.toNat < 45) (n : Int) : ∀ x ∈ digs n, x ≠ b := fun x hx e => by
  have := digs_clean n x hx
  rw [e] at this
  omega

/-- all numbers, or none -/
def allN : List (List UInt8) → Option (List Int)
  | [] => some []
  | s :: r => match numP s, allN r with
    | some n, some ns => some (n :: ns)
    | _, _ => none
/-- the numbers of a line with a first word and so many -/
def numsP (s first : List UInt8) (many : Nat) : Option (List Int) :=
  if (splitP 32 s).headD [] = first ∧ (splitP 32 s).tail.length = many then allN (splitP 32 s).tail else none
theorem allN_some : ∀ {l : List (List UInt8)} {ns : List Int}, allN l = some ns ↔ (∀ n ∈ ns, rngP n) ∧ l = ns.map digs
  | [], ns => by
    rw [allN]
    constructor
    · intro h; cases h; simp
    · rintro ⟨_, h⟩
      cases ns with
      | nil => rfl
      | cons a b => simp at h
  | s :: r, ns => by
    rw [allN]
    constructor
    · intro h
      cases h1 : numP s with
      | none => rw [h1] at h; cases h
      | some n =>
        cases h2 : allN r with
        | none => rw [h1, h2] at h; cases h
        | some ms =>
          rw [h1, h2] at h
          cases h
          obtain ⟨g1, g2⟩ := num_iff.1 h1
          obtain ⟨g3, g4⟩ := allN_some.1 h2
          refine ⟨fun m hm => ?_, by rw [List.map_cons, g2, g4]⟩
          rcases List.mem_cons.1 hm with rfl | hm
          · exact g1
          · exact g3 m hm
    · rintro ⟨h1, h2⟩
      cases ns with
      | nil => simp at h2
      | cons n ms =>
        rw [List.map_cons] at h2
        injection h2 with h3 h4
        rw [num_iff.2 ⟨h1 n (by simp), h3.symm⟩, allN_some.2 ⟨fun m hm => h1 m (by simp [hm]), h4⟩]
theorem join_ln (w : List UInt8) : ∀ (ns : List Int), joinB 32 (w :: ns.map digs) = lnP w ns
  | [] => by simp [joinB, lnP]
  | n :: r => by
    have ih := join_ln (digs n) r
    rw [List.map_cons, joinB, ih]
    simp [lnP]
theorem split_ln {w : List UInt8} (hw : ∀ x ∈ w, x ≠ 32) : ∀ (ns : List Int), splitP 32 (lnP w ns) = w :: ns.map digs
  | [] => by simp [lnP, split_none hw]
  | n :: r => by
    have ih := split_ln (w := digs n) (digs_no (by decide) n) r
    have e : lnP w (n :: r) = w ++ 32 :: lnP (digs n) r := by simp [lnP]
    rw [e, split_app _ hw, ih]; rfl
/-- such a line is just the word and the numbers -/
theorem nums_iff {s first : List UInt8} {many : Nat} {ns : List Int} (hw : ∀ x ∈ first, x ≠ 32) : numsP s first many = some ns ↔ s = lnP first ns ∧ ns.length = many ∧ ∀ n ∈ ns, rngP n := by
  unfold numsP
  constructor
  · intro h
    split at h
    · rename_i hc
      obtain ⟨h1, h2⟩ := allN_some.1 h
      have hj := join_split 32 s
      cases hs : splitP 32 s with
      | nil => exact absurd hs (split_ne 32 s)
      | cons x t =>
        rw [hs] at hc h2 hj
        simp at hc h2
        rw [hc.1, h2, join_ln] at hj
        refine ⟨hj.symm, ?_, h1⟩
        rw [← hc.2, h2, List.length_map]
    · cases h
  · rintro ⟨rfl, rfl, h⟩
    rw [split_ln hw]
    simp
    exact allN_some.2 ⟨h, rfl⟩
theorem nums_none {s first : List UInt8} {many : Nat} (hw : ∀ x ∈ first, x ≠ 32) (h : ∀ ns : List Int, s ≠ lnP first ns) : numsP s first many = none := by
  cases hn : numsP s first many with
  | none => rfl
  | some ns => exact absurd ((nums_iff hw).1 hn).1 (h ns)

end Go.Proofs.YtnojlfdojmkonaaGreatDoor

namespace Go.Proofs.YtnojlfdojmkonaaGreatDoor
set_option linter.unusedSimpArgs false
set_option maxRecDepth 100000
open Go.RowKit

/-- a program -/
structure Pg where
  g : Int
  pool : List ByteArray
  codes : List Cd
def zeroC (cs : List Cd) : Bool := match cs with | [] => false | c :: _ => (c.p == 0) && (c.l == 0)
def strsB (ss : List ByteArray) : Bool := ss.all fun s => decide (s.size ≤ 256)
def sizesB (P : Pg) : Bool := inZ P.g 0 24 && (inZ P.codes.length 1 32 && (decide (P.pool.length ≤ 120) && (strsB P.pool && zeroC P.codes)))
theorem strsB_step {ss : List ByteArray} {i : Nat} {s : ByteArray} (h : ss[i]? = some s) : strsB (ss.drop i) = (decide (s.size ≤ 256) && strsB (ss.drop (i + 1))) := by
  have hi := (List.getElem?_eq_some_iff.1 h).1
  rw [List.drop_eq_getElem_cons hi]
  have : ss[i] = s := Option.some.inj ((List.getElem?_eq_getElem hi).symm.trans h)
  rw [this]
  rfl
abbrev pgV (P : Pg) (pv cv : Value) : Value := .agg #[.int .i64 P.g, pv, cv]
set_option maxHeartbeats 3200000 in
theorem sizes_calls (B : Nat) (P : Pg) (pv cv : Value) (w : World) (hB : B ≤ w.heap.size) (hP : PlIn B w pv P.pool) (hC : CdsIn B w cv P.codes) (hp : P.pool.length ≤ 1000000) (hc : P.codes.length ≤ 1000000) (hs : ∀ s ∈ P.pool, s.size ≤ maxLen) :
    Calls Tryz.prog 27 #[pgV P pv cv] w fun e w' => e = .returned (.bool (sizesB P)) ∧ Below w.heap.size w w' := by
  have H := hid (show sizesB P = (inZ P.g 0 24 && (inZ P.codes.length 1 32 && (decide (P.pool.length ≤ 120) && (strsB P.pool && zeroC P.codes)))) from rfl)
  generalize sizesB P = R at *
  obtain ⟨G, ss, cs⟩ := P
  simp only [pgV] at *
  obtain ⟨pa, pc, rfl⟩ := plIn_shape hP
  obtain ⟨ca, cc, rfl⟩ := cdsIn_shape hC
  have AL := hid (box_below w (.cells #[.int .i64 G, .slice pa ss.length pc, .slice ca cs.length cc] 25))
  have BL := hid (blk_new w 25 #[.int .i64 G, .slice pa ss.length pc, .slice ca cs.length cc])
  have HS := hid hs
  clear hs
  generalize hW : w.alloc (.cells #[.int .i64 G, .slice pa ss.length pc, .slice ca cs.length cc] 25) = w2 at *
  have HP := hid (plIn_on hP (AL.out.mono hB))
  have HC := hid (cdsIn_on hC (AL.out.mono hB))
  clear hP hC
  have p0 : w2.cell? ⟨w.heap.size, 0, none⟩ = some (.int .i64 G) := blk_cellZ BL.out 0 rfl
  have p1 : w2.cell? ⟨w.heap.size, 1, none⟩ = some (.slice pa ss.length pc) := blk_cellZ BL.out 1 rfl
  have p2 : w2.cell? ⟨w.heap.size, 2, none⟩ = some (.slice ca cs.length cc) := blk_cellZ BL.out 2 rfl
  have W1 := hid (cdwithin_calls G 0 24)
  have W2 := hid (cdwithin_calls cs.length 1 32)
  cases h1 : inZ G 0 24 with
  | false =>
    rw [h1] at H W1
    go_enter Tryz.func27, Tryz.ntmps27
    go_wp2_with fail
    refine (W1.out _).mono ?_
    rintro e w4 ⟨rfl, rfl⟩
    go_wp2_with fail
    go_ret
    exact ⟨by rw [H.out]; rfl, AL.out⟩
  | true =>
  rw [h1] at H W1
  clear h1
  cases h2 : inZ cs.length 1 32 with
  | false =>
    rw [h2] at H W2
    go_enter Tryz.func27, Tryz.ntmps27
    go_wp2_with fail
    refine (W1.out _).mono ?_
    rintro e w4 ⟨rfl, rfl⟩
    go_wp2_with fail
    refine (W2.out _).mono ?_
    rintro e w4 ⟨rfl, rfl⟩
    go_wp2_with fail
    go_ret
    exact ⟨by rw [H.out]; rfl, AL.out⟩
  | true =>
  rw [h2] at H W2
  have g2 := inZ_iff.1 h2
  clear h2
  by_cases h3 : 120 < ss.length
  · have h3' : (120 : Int) < (ss.length : Int) := by omega
    replace H := hid (H.out.trans (show _ = false by rw [decide_eq_false (by omega)]; rfl))
    go_enter Tryz.func27, Tryz.ntmps27
    go_wp2_with fail
    refine (W1.out _).mono ?_
    rintro e w4 ⟨rfl, rfl⟩
    go_wp2_with fail
    refine (W2.out _).mono ?_
    rintro e w4 ⟨rfl, rfl⟩
    go_wp2_with fail
    go_ret
    exact ⟨by rw [H.out]; rfl, AL.out⟩
  replace H := hid (show R = (strsB ss && zeroC cs) by rw [H.out, decide_eq_true (by omega)]; rfl)
  have h3' : ¬ (120 : Int) < (ss.length : Int) := by omega
  obtain ⟨c, hcz⟩ : ∃ c, cs[0]? = some c := ⟨_, List.getElem?_eq_getElem (by omega)⟩
  have HZ := hid (show zeroC cs = ((c.p == 0) && (c.l == 0)) by
    cases cs with
    | nil => simp at hcz
    | cons x r => simp at hcz; subst hcz; rfl)
  obtain ⟨cb, coff, hca, hcb, iv, d0, d1, _, _, _, _⟩ := cdsIn_at HC.out hcz
  subst hca
  rw [Nat.zero_mul, Nat.add_zero] at d0 d1
  obtain ⟨cp, cl, c3, c4, c5⟩ := c
  simp only at d0 d1
  have hcl : (0 : Int) < (cs.length : Int) := by omega
  clear g2 hcz
  go_enter Tryz.func27, Tryz.ntmps27
  go_wp2_with fail
  refine (W1.out _).mono ?_
  rintro e w4 ⟨rfl, rfl⟩
  go_wp2_with fail
  refine (W2.out _).mono ?_
  rintro e w4 ⟨rfl, rfl⟩
  go_wp2_with fail
  clear W1 W2
  go_loopw [25] (fun iV wr => ∃ i : Nat, i ≤ ss.length ∧ iV = .int .i64 i ∧ Hid (R = (strsB (ss.drop i) && zeroC cs)) ∧ wr = w2) (fun iV _ => ss.length - (intOf iV).toNat)
  case atStart => exact ⟨0, by omega, rfl, hid (by rw [H.out]; rfl), rfl⟩
  case round =>
    obtain ⟨i, hi, rfl, hA, rfl⟩ := hrel
    by_cases hil : i < ss.length
    · obtain ⟨s, hx⟩ : ∃ x, ss[i]? = some x := ⟨_, List.getElem?_eq_getElem hil⟩
      have hss := HS.out s (List.mem_of_getElem? hx)
      obtain ⟨pb, poff, hpa, hpb, s0⟩ := plIn_at HP.out hx
      subst hpa
      have hst := hid (hA.out.trans (congrArg (· && zeroC cs) (strsB_step hx)))
      by_cases h4 : 256 < s.size
      · have d2 : decide ((256 : Int) < (s.size : Int)) = true := decide_eq_true (by omega)
        have HN := hid (show R = false by rw [hst.out, decide_eq_false (by omega)]; rfl)
        go_wp2_with fail
        go_ret
        exact ⟨by rw [HN.out]; rfl, AL.out⟩
      · have d2 : decide ((256 : Int) < (s.size : Int)) = false := decide_eq_false (by omega)
        have HN := hid (show R = (strsB (ss.drop (i + 1)) && zeroC cs) by rw [hst.out, decide_eq_true (by omega)]; rfl)
        clear h4
        go_wp2_with fail
        exact ⟨⟨i + 1, by omega, by simp, HN, trivial⟩, by simp [intOf]; omega⟩
    · have hie : i = ss.length := by omega
      subst hie
      replace hA := hid (show R = ((cp == 0) && (cl == 0)) by rw [hA.out, List.drop_length, HZ.out]; rfl)
      by_cases hcp : cp = 0
      · subst hcp
        go_wp2_with fail
        go_ret
        exact ⟨by rw [hA.out]; rfl, AL.out⟩
      · have b1 : (cp == 0) = false := beq_eq_false_iff_ne.2 hcp
        clear hcp
        go_wp2_with fail
        go_ret
        exact ⟨by rw [hA.out, b1]; rfl, AL.out⟩

end Go.Proofs.YtnojlfdojmkonaaGreatDoor
