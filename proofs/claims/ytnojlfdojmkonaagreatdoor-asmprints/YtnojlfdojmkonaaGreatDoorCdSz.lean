/- May a program's sizes be: the program's word. -/
import Derived.Test.YtnojlfdojmkonaaGreatDoorJoint4
namespace Go.Proofs.YtnojlfdojmkonaaGreatDoor
set_option linter.unusedSimpArgs false
set_option maxRecDepth 100000
open Go.RowKit

/-- a program -/
structure Pg where
  g : Int
  pool : List ByteArray
  codes : List Cd
def zeroC (cs : List Cd) : Bool := match cs with | [] => false | c :: _ => (c.p == 0) && (c.l == 0)
def strsB (ss : List ByteArray) : Bool := ss.all fun s => decide (s.size ≤ 256)
def sizesB (P : Pg) : Bool := inZ P.g 0 24 && (inZ P.codes.length 1 32 && (decide (P.pool.length ≤ 120) && (strsB P.pool && zeroC P.codes)))
theorem strsB_step {ss : List ByteArray} {i : Nat} {s : ByteArray} (h : ss[i]? = some s) : strsB (ss.drop i) = (decide (s.size ≤ 256) && strsB (ss.drop (i + 1))) := by
  have hi := (List.getElem?_eq_some_iff.1 h).1
  rw [List.drop_eq_getElem_cons hi]
  have : ss[i] = s := Option.some.inj ((List.getElem?_eq_getElem hi).symm.trans h)
  rw [this]
  rfl
abbrev pgV (P : Pg) (pv cv : Value) : Value := .agg #[.int .i64 P.g, pv, cv]
set_option maxHeartbeats 3200000 in
theorem sizes_calls (B : Nat) (P : Pg) (pv cv : Value) (w : World) (hB : B ≤ w.heap.size) (hP : PlIn B w pv P.pool) (hC : CdsIn B w cv P.codes) (hp : P.pool.length ≤ 1000000) (hc : P.codes.length ≤ 1000000) (hs : ∀ s ∈ P.pool, s.size ≤ maxLen) :
    Calls Tryz.prog 27 #[pgV P pv cv] w fun e w' => e = .returned (.bool (sizesB P)) ∧ Below w.heap.size w w' := by
  have H := hid (show sizesB P = (inZ P.g 0 24 && (inZ P.codes.length 1 32 && (decide (P.pool.length ≤ 120) && (strsB P.pool && zeroC P.codes)))) from rfl)
  generalize sizesB P = R at *
  obtain ⟨G, ss, cs⟩ := P
  simp only [pgV] at *
  obtain ⟨pa, pc, rfl⟩ := plIn_shape hP
  obtain ⟨ca, cc, rfl⟩ := cdsIn_shape hC
  have AL := hid (box_below w (.cells #[.int .i64 G, .slice pa ss.length pc, .slice ca cs.length cc] 25))
  have BL := hid (blk_new w 25 #[.int .i64 G, .slice pa ss.length pc, .slice ca cs.length cc])
  have HS := hid hs
  clear hs
  generalize hW : w.alloc (.cells #[.int .i64 G, .slice pa ss.length pc, .slice ca cs.length cc] 25) = w2 at *
  have HP := hid (plIn_on hP (AL.out.mono hB))
  have HC := hid (cdsIn_on hC (AL.out.mono hB))
  clear hP hC
  have p0 : w2.cell? ⟨w.heap.size, 0, none⟩ = some (.int .i64 G) := blk_cellZ BL.out 0 rfl
  have p1 : w2.cell? ⟨w.heap.size, 1, none⟩ = some (.slice pa ss.length pc) := blk_cellZ BL.out 1 rfl
  have p2 : w2.cell? ⟨w.heap.size, 2, none⟩ = some (.slice ca cs.length cc) := blk_cellZ BL.out 2 rfl
  have W1 := hid (cdwithin_calls G 0 24)
  have W2 := hid (cdwithin_calls cs.length 1 32)
  cases h1 : inZ G 0 24 with
  | false =>
    rw [h1] at H W1
    go_enter Tryz.func27, Tryz.ntmps27
    go_wp2_with fail
    refine (W1.out _).mono ?_
    rintro e w4 ⟨rfl, rfl⟩
    go_wp2_with fail
    go_ret
    exact ⟨by rw [H.out]; rfl, AL.out⟩
  | true =>
  rw [h1] at H W1
  clear h1
  cases h2 : inZ cs.length 1 32 with
  | false =>
    rw [h2] at H W2
    go_enter Tryz.func27, Tryz.ntmps27
    go_wp2_with fail
    refine (W1.out _).mono ?_
    rintro e w4 ⟨rfl, rfl⟩
    go_wp2_with fail
    refine (W2.out _).mono ?_
    rintro e w4 ⟨rfl, rfl⟩
    go_wp2_with fail
    go_ret
    exact ⟨by rw [H.out]; rfl, AL.out⟩
  | true =>
  rw [h2] at H W2
  have g2 := inZ_iff.1 h2
  clear h2
  by_cases h3 : 120 < ss.length
  · have h3' : (120 : Int) < (ss.length : Int) := by omega
    replace H := hid (H.out.trans (show _ = false by rw [decide_eq_false (by omega)]; rfl))
    go_enter Tryz.func27, Tryz.ntmps27
    go_wp2_with fail
    refine (W1.out _).mono ?_
    rintro e w4 ⟨rfl, rfl⟩
    go_wp2_with fail
    refine (W2.out _).mono ?_
    rintro e w4 ⟨rfl, rfl⟩
    go_wp2_with fail
    go_ret
    exact ⟨by rw [H.out]; rfl, AL.out⟩
  replace H := hid (show R = (strsB ss && zeroC cs) by rw [H.out, decide_eq_true (by omega)]; rfl)
  have h3' : ¬ (120 : Int) < (ss.length : Int) := by omega
  obtain ⟨c, hcz⟩ : ∃ c, cs[0]? = some c := ⟨_, List.getElem?_eq_getElem (by omega)⟩
  have HZ := hid (show zeroC cs = ((c.p == 0) && (c.l == 0)) by
    cases cs with
    | nil => simp at hcz
    | cons x r => simp at hcz; subst hcz; rfl)
  obtain ⟨cb, coff, hca, hcb, iv, d0, d1, _, _, _, _⟩ := cdsIn_at HC.out hcz
  subst hca
  rw [Nat.zero_mul, Nat.add_zero] at d0 d1
  obtain ⟨cp, cl, c3, c4, c5⟩ := c
  simp only at d0 d1
  have hcl : (0 : Int) < (cs.length : Int) := by omega
  clear g2 hcz
  go_enter Tryz.func27, Tryz.ntmps27
  go_wp2_with fail
  refine (W1.out _).mono ?_
  rintro e w4 ⟨rfl, rfl⟩
  go_wp2_with fail
  refine (W2.out _).mono ?_
  rintro e w4 ⟨rfl, rfl⟩
  go_wp2_with fail
  clear W1 W2
  go_loopw [25] (fun iV wr => ∃ i : Nat, i ≤ ss.length ∧ iV = .int .i64 i ∧ Hid (R = (strsB (ss.drop i) && zeroC cs)) ∧ wr = w2) (fun iV _ => ss.length - (intOf iV).toNat)
  case atStart => exact ⟨0, by omega, rfl, hid (by rw [H.out]; rfl), rfl⟩
  case round =>
    obtain ⟨i, hi, rfl, hA, rfl⟩ := hrel
    by_cases hil : i < ss.length
    · obtain ⟨s, hx⟩ : ∃ x, ss[i]? = some x := ⟨_, List.getElem?_eq_getElem hil⟩
      have hss := HS.out s (List.mem_of_getElem? hx)
      obtain ⟨pb, poff, hpa, hpb, s0⟩ := plIn_at HP.out hx
      subst hpa
      have hst := hid (hA.out.trans (congrArg (· && zeroC cs) (strsB_step hx)))
      by_cases h4 : 256 < s.size
      · have d2 : decide ((256 : Int) < (s.size : Int)) = true := decide_eq_true (by omega)
        have HN := hid (show R = false by rw [hst.out, decide_eq_false (by omega)]; rfl)
        go_wp2_with fail
        go_ret
        exact ⟨by rw [HN.out]; rfl, AL.out⟩
      · have d2 : decide ((256 : Int) < (s.size : Int)) = false := decide_eq_false (by omega)
        have HN := hid (show R = (strsB (ss.drop (i + 1)) && zeroC cs) by rw [hst.out, decide_eq_true (by omega)]; rfl)
        clear h4
        go_wp2_with fail
        exact ⟨⟨i + 1, by omega, by simp, HN, trivial⟩, by simp [intOf]; omega⟩
    · have hie : i = ss.length := by omega
      subst hie
      replace hA := hid (show R = ((cp == 0) && (cl == 0)) by rw [hA.out, List.drop_length, HZ.out]; rfl)
      by_cases hcp : cp = 0
      · subst hcp
        go_wp2_with fail
        go_ret
        exact ⟨by rw [hA.out]; rfl, AL.out⟩
      · have b1 : (cp == 0) = false := beq_eq_false_iff_ne.2 hcp
        clear hcp
        go_wp2_with fail
        go_ret
        exact ⟨by rw [hA.out, b1]; rfl, AL.out⟩

end Go.Proofs.YtnojlfdojmkonaaGreatDoor
