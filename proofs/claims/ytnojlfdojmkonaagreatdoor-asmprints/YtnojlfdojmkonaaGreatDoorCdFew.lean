/- Has a program few instructions: the document's own word; and a program's depths: the program's. -/
import Derived.Test.YtnojlfdojmkonaaGreatDoorCdChk
namespace Go.Proofs.YtnojlfdojmkonaaGreatDoor
set_option linter.unusedSimpArgs false
set_option linter.unusedVariables false
set_option maxRecDepth 100000
open Go.RowKit

/-- few instructions, and strings -/
def FewG (P : Pg) : Prop := P.pool.length ≤ 130 ∧ P.codes.length ≤ 40 ∧ ∀ c ∈ P.codes, c.ins.length ≤ 400
def FewOut (F : Prop) (e : Ending) : Prop := ∃ r, e = .returned (.bool r) ∧ (r = true → F)
def DptRet (D : List Int → Prop) (e : Ending) (w : World) : Prop := ∃ v ds, e = .returned v ∧ D ds ∧ NsIn w.heap.size w v ds
set_option maxHeartbeats 3200000 in
theorem cfew_calls (B : Nat) (P : Pg) (pv cv : Value) (w : World) (hB : B ≤ w.heap.size) (hP : PlIn B w pv P.pool) (hC : CdsIn B w cv P.codes) :
    Calls Tryz.prog 7 #[pgV P pv cv, .int .i64 400] w fun e w' => FewOut (FewG P) e ∧ Below w.heap.size w w' := by
  have FW := hid (show FewG P ↔ P.pool.length ≤ 130 ∧ P.codes.length ≤ 40 ∧ ∀ c ∈ P.codes, c.ins.length ≤ 400 from Iff.rfl)
  generalize FewG P = FG at *
  obtain ⟨G, ss, cs⟩ := P
  simp only [pgV] at *
  obtain ⟨pa, pc, rfl⟩ := plIn_shape hP
  obtain ⟨ca, cc, rfl⟩ := cdsIn_shape hC
  have HC := hid hC
  clear hP hC
  have AL := hid (box_below w (.cells #[.int .i64 G, .slice pa ss.length pc, .slice ca cs.length cc] 25))
  have BL := hid (blk_new w 25 #[.int .i64 G, .slice pa ss.length pc, .slice ca cs.length cc])
  have hsz : (w.alloc (.cells #[.int .i64 G, .slice pa ss.length pc, .slice ca cs.length cc] 25)).heap.size = w.heap.size + 1 := by simp
  generalize hW : w.alloc (.cells #[.int .i64 G, .slice pa ss.length pc, .slice ca cs.length cc] 25) = w1 at *
  have p1 : w1.cell? ⟨w.heap.size, 1, none⟩ = some (.slice pa ss.length pc) := blk_cellZ BL.out 1 rfl
  have p2 : w1.cell? ⟨w.heap.size, 2, none⟩ = some (.slice ca cs.length cc) := blk_cellZ BL.out 2 rfl
  by_cases h1 : 40 < cs.length
  · have h1' : (40 : Int) < (cs.length : Int) := by omega
    go_enter Tryz.func7, Tryz.ntmps7
    go_wp2_with fail
    go_ret
    exact ⟨⟨false, rfl, fun h => by cases h⟩, AL.out⟩
  have h1' : ¬ (40 : Int) < (cs.length : Int) := by omega
  by_cases h2 : 130 < ss.length
  · have h2' : (130 : Int) < (ss.length : Int) := by omega
    go_enter Tryz.func7, Tryz.ntmps7
    go_wp2_with fail
    go_ret
    exact ⟨⟨false, rfl, fun h => by cases h⟩, AL.out⟩
  have h2' : ¬ (130 : Int) < (ss.length : Int) := by omega
  have HC1 := hid (cdsIn_on HC.out (AL.out.mono hB))
  go_enter Tryz.func7, Tryz.ntmps7
  go_wp2_with fail
  go_loopw [1, 5] (fun mV iV wr => ∃ i m : Nat, i ≤ cs.length ∧ m ≤ 400 ∧ mV = .int .i64 m ∧ iV = .int .i64 i ∧ Hid (∀ (k : Nat) c, k < i → cs[k]? = some c → c.ins.length ≤ 400) ∧ w1 = wr) (fun _ iV _ => cs.length - (intOf iV).toNat)
  case atStart => exact ⟨0, 400, by omega, by omega, rfl, rfl, hid (fun k c hk => absurd hk (Nat.not_lt_zero _)), rfl⟩
  case round =>
    obtain ⟨i, m, hi, hm, rfl, rfl, hA, rfl⟩ := hrel
    by_cases hil : i < cs.length
    · obtain ⟨c, hc⟩ : ∃ c, cs[i]? = some c := ⟨_, List.getElem?_eq_getElem hil⟩
      have hil' : (i : Int) < (cs.length : Int) := by omega
      obtain ⟨cb, off, hca, hcb, iv, d0, d1, d2, d3, d4, hI⟩ := cdsIn_at HC1.out hc
      subst hca
      obtain ⟨ia, ic, rfl⟩ := insIn_shape hI
      clear hI d0 d1 d2 d3
      by_cases hl : m < c.ins.length
      · have hl' : (m : Int) < (c.ins.length : Int) := by omega
        go_wp2_with fail
        go_ret
        exact ⟨⟨false, rfl, fun h => by cases h⟩, AL.out⟩
      · have hl' : ¬ (m : Int) < (c.ins.length : Int) := by omega
        have A2 := hid (show ∀ (k : Nat) c, k < i + 1 → cs[k]? = some c → c.ins.length ≤ 400 from fun k c' hk hc' => by
          by_cases hki : k = i
          · subst hki
            rw [hc] at hc'
            obtain rfl := Option.some.inj hc'
            omega
          · exact hA.out k c' (by omega) hc')
        go_wp2_with fail
        exact ⟨⟨i + 1, m - c.ins.length, by omega, by omega, by simp; omega, by simp, A2, by first | rfl | trivial⟩, by simp [intOf]; omega⟩
    · have hie : i = cs.length := by omega
      subst hie
      have YES := hid (show FG from FW.out.2 ⟨by omega, by omega, fun c hc => by
        obtain ⟨k, hk⟩ := List.getElem?_of_mem hc
        exact hA.out k c (List.getElem?_eq_some_iff.1 hk).1 hk⟩)
      go_wp2_with fail
      go_ret
      exact ⟨⟨true, rfl, fun _ => YES.out⟩, AL.out⟩
/-- what Depths answers -/
def DptOut (P : Pg) (f : Int) (ds : List Int) : Prop := (∃ j : Nat, f = j ∧ checkP P ∧ ∃ c, P.codes[j]? = some c ∧ Flow c ds) ∨ (ds = [] ∧ ¬ (0 ≤ f ∧ f < P.codes.length ∧ checkP P))
end Go.Proofs.YtnojlfdojmkonaaGreatDoor
