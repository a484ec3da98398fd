/- Has a program few instructions: the document's own word; and a program's depths: the program's. -/
import Derived.Test.YtciobggfefmgnaaCdChk
namespace Go.Proofs.Ytciobggfefmgnaa
set_option linter.unusedSimpArgs false
set_option linter.unusedVariables false
set_option maxRecDepth 100000
open Go.RowKit

/-- few instructions, and strings -/
def FewG (P : Pg) : Prop := P.pool.length ≤ 130 ∧ P.codes.length ≤ 40 ∧ ∀ c ∈ P.codes, c.ins.length ≤ 400
def FewOut (F : Prop) (e : Ending) : Prop := ∃ r, e = .returned (.bool r) ∧ (r = true → F)
def DptRet (D : List Int → Prop) (e : Ending) (w : World) : Prop := ∃ v ds, e = .returned v ∧ D ds ∧ NsIn w.heap.size w v ds
set_option maxHeartbeats 3200000 in
theorem cfew_calls (B : Nat) (P : Pg) (pv cv : Value) (w : World) (hB : B ≤ w.heap.size) (hP : PlIn B w pv P.pool) (hC : CdsIn B w cv P.codes) :
    Calls Try.prog 7 #[pgV P pv cv, .int .i64 400] w fun e w' => FewOut (FewG P) e ∧ Below w.heap.size w w' := by
  have FW := hid (show FewG P ↔ P.pool.length ≤ 130 ∧ P.codes.length ≤ 40 ∧ ∀ c ∈ P.codes, c.ins.length ≤ 400 from Iff.rfl)
  generalize FewG P = FG at *
  obtain ⟨G, ss, cs⟩ := P
  simp only [pgV] at *
  obtain ⟨pa, pc, rfl⟩ := plIn_shape hP
  obtain ⟨ca, cc, rfl⟩ := cdsIn_shape hC
  have HC := hid hC
  clear hP hC
  have AL := hid (box_below w (.cells #[.int .i64 G, .slice pa ss.length pc, .slice ca cs.length cc] 25))
  have BL := hid (blk_new w 25 #[.int .i64 G, .slice pa ss.length pc, .slice ca cs.length cc])
  have hsz : (w.alloc (.cells #[.int .i64 G, .slice pa ss.length pc, .slice ca cs.length cc] 25)).heap.size = w.heap.size + 1 := by simp
  generalize hW : w.alloc (.cells #[.int .i64 G, .slice pa ss.length pc, .slice ca cs.length cc] 25) = w1 at *
  have p1 : w1.cell? ⟨w.heap.size, 1, none⟩ = some (.slice pa ss.length pc) := blk_cellZ BL.out 1 rfl
  have p2 : w1.cell? ⟨w.heap.size, 2, none⟩ = some (.slice ca cs.length cc) := blk_cellZ BL.out 2 rfl
  by_cases h1 : 40 < cs.length
  · have h1' : (40 : Int) < (cs.length : Int) := by omega
    go_enter Try.func7, Try.ntmps7
    go_wp2_with fail
    go_ret
    exact ⟨⟨false, rfl, fun h => by cases h⟩, AL.out⟩
  have h1' : ¬ (40 : Int) < (cs.length : Int) := by omega
  by_cases h2 : 130 < ss.length
  · have h2' : (130 : Int) < (ss.length : Int) := by omega
    go_enter Try.func7, Try.ntmps7
    go_wp2_with fail
    go_ret
    exact ⟨⟨false, rfl, fun h => by cases h⟩, AL.out⟩
  have h2' : ¬ (130 : Int) < (ss.length : Int) := by omega
  have HC1 := hid (cdsIn_on HC.out (AL.out.mono hB))
  go_enter Try.func7, Try.ntmps7
  go_wp2_with fail
  go_loopw [1, 5] (fun mV iV wr => ∃ i m : Nat, i ≤ cs.length ∧ m ≤ 400 ∧ mV = .int .i64 m ∧ iV = .int .i64 i ∧ Hid (∀ (k : Nat) c, k < i → cs[k]? = some c → c.ins.length ≤ 400) ∧ w1 = wr) (fun _ iV _ => cs.length - (intOf iV).toNat)
  case atStart => exact ⟨0, 400, by omega, by omega, rfl, rfl, hid (fun k c hk => absurd hk (Nat.not_lt_zero _)), rfl⟩
  case round =>
    obtain ⟨i, m, hi, hm, rfl, rfl, hA, rfl⟩ := hrel
    by_cases hil : i < cs.length
    · obtain ⟨c, hc⟩ : ∃ c, cs[i]? = some c := ⟨_, List.getElem?_eq_getElem hil⟩
      have hil' : (i : Int) < (cs.length : Int) := by omega
      obtain ⟨cb, off, hca, hcb, iv, d0, d1, d2, d3, d4, hI⟩ := cdsIn_at HC1.out hc
      subst hca
      obtain ⟨ia, ic, rfl⟩ := insIn_shape hI
      clear hI d0 d1 d2 d3
      by_cases hl : m < c.ins.length
      · have hl' : (m : Int) < (c.ins.length : Int) := by omega
        go_wp2_with fail
        go_ret
        exact ⟨⟨false, rfl, fun h => by cases h⟩, AL.out⟩
      · have hl' : ¬ (m : Int) < (c.ins.length : Int) := by omega
        have A2 := hid (show ∀ (k : Nat) c, k < i + 1 → cs[k]? = some c → c.ins.length ≤ 400 from fun k c' hk hc' => by
          by_cases hki : k = i
          · subst hki
            rw [hc] at hc'
            obtain rfl := Option.some.inj hc'
            omega
          · exact hA.out k c' (by omega) hc')
        go_wp2_with fail
        exact ⟨⟨i + 1, m - c.ins.length, by omega, by omega, by simp; omega, by simp, A2, by first | rfl | trivial⟩, by simp [intOf]; omega⟩
    · have hie : i = cs.length := by omega
      subst hie
      have YES := hid (show FG from FW.out.2 ⟨by omega, by omega, fun c hc => by
        obtain ⟨k, hk⟩ := List.getElem?_of_mem hc
        exact hA.out k c (List.getElem?_eq_some_iff.1 hk).1 hk⟩)
      go_wp2_with fail
      go_ret
      exact ⟨⟨true, rfl, fun _ => YES.out⟩, AL.out⟩
/-- what Depths answers -/
def DptOut (P : Pg) (f : Int) (ds : List Int) : Prop := (∃ j : Nat, f = j ∧ checkP P ∧ ∃ c, P.codes[j]? = some c ∧ Flow c ds) ∨ (ds = [] ∧ ¬ (0 ≤ f ∧ f < P.codes.length ∧ checkP P))
set_option maxHeartbeats 3200000 in
theorem cdepths_calls (B : Nat) (P : Pg) (pv cv : Value) (f : Int) (w : World) (hB : B ≤ w.heap.size) (hP : PgIn B w P pv cv) :
    Calls Try.prog 14 #[pgV P pv cv, .int .i64 f] w fun e w' => DptRet (DptOut P f) e w' ∧ Below w.heap.size w w' := by
  have CK := hid (fun W (q : Below B w W) => ccheck_calls B P pv cv W (Nat.le_trans hB q.size) (hP.on q))
  have DP := hid (fun (c : Cd) iv W => depths_calls B c iv W)
  have GD := hid (show checkP P → ∀ (j : Nat) c, P.codes[j]? = some c → rightC P.g P.pool.length P.codes.length c = true ∧ ∃ ds, Flow c ds from fun h j c hc => h.2 c (List.mem_of_getElem? hc))
  have OUT := hid (show ∀ ds, DptOut P f ds ↔ (∃ j : Nat, f = j ∧ checkP P ∧ ∃ c, P.codes[j]? = some c ∧ Flow c ds) ∨ (ds = [] ∧ ¬ (0 ≤ f ∧ f < P.codes.length ∧ checkP P)) from fun _ => Iff.rfl)
  generalize DptOut P f = DO at *
  generalize checkP P = CP at *
  obtain ⟨G, ss, cs⟩ := P
  simp only [pgV] at *
  obtain ⟨pa, pc, rfl⟩ := plIn_shape hP.pool
  obtain ⟨ca, cc, rfl⟩ := cdsIn_shape hP.codes
  have hfew := hP.few
  have HP := hid hP
  simp only at hfew
  clear hP
  have AL := hid (box_below w (.cells #[.int .i64 G, .slice pa ss.length pc, .slice ca cs.length cc] 25))
  have BL := hid (blk_new w 25 #[.int .i64 G, .slice pa ss.length pc, .slice ca cs.length cc])
  have hsz : (w.alloc (.cells #[.int .i64 G, .slice pa ss.length pc, .slice ca cs.length cc] 25)).heap.size = w.heap.size + 1 := by simp
  generalize hW : w.alloc (.cells #[.int .i64 G, .slice pa ss.length pc, .slice ca cs.length cc] 25) = w1 at *
  have p0 : w1.cell? ⟨w.heap.size, 0, none⟩ = some (.int .i64 G) := blk_cellZ BL.out 0 rfl
  have p1 : w1.cell? ⟨w.heap.size, 1, none⟩ = some (.slice pa ss.length pc) := blk_cellZ BL.out 1 rfl
  have p2 : w1.cell? ⟨w.heap.size, 2, none⟩ = some (.slice ca cs.length cc) := blk_cellZ BL.out 2 rfl
  by_cases h0 : f < 0
  · have NO := hid ((OUT.out []).2 (.inr ⟨rfl, fun h => by omega⟩))
    go_enter Try.func14, Try.ntmps14
    go_wp2_with fail
    go_ret
    exact ⟨⟨_, [], rfl, NO.out, .inl ⟨_, _, rfl, rfl⟩⟩, AL.out⟩
  by_cases h1 : (cs.length : Int) ≤ f
  · have NO := hid ((OUT.out []).2 (.inr ⟨rfl, fun h => by omega⟩))
    go_enter Try.func14, Try.ntmps14
    go_wp2_with fail
    go_ret
    exact ⟨⟨_, [], rfl, NO.out, .inl ⟨_, _, rfl, rfl⟩⟩, AL.out⟩
  obtain ⟨j, rfl⟩ : ∃ j : Nat, f = (j : Int) := ⟨f.toNat, by omega⟩
  have hjl : j < cs.length := by omega
  have hjl' : (j : Int) < (cs.length : Int) := by omega
  clear h0 h1
  obtain ⟨c, hc⟩ : ∃ c, cs[j]? = some c := ⟨_, List.getElem?_eq_getElem hjl⟩
  go_enter Try.func14, Try.ntmps14
  go_wp2_with fail
  refine (CK.out _ (AL.out.mono hB)).mono ?_
  rintro e w2 ⟨⟨r, rfl, hr⟩, b2⟩
  have B2 := hid (AL.out.trans (b2.mono (by omega)))
  have BL2 := hid (blk_on BL.out b2)
  have hs2 := B2.out.size
  clear b2 p0 p1 p2
  have p2 : w2.cell? ⟨w.heap.size, 2, none⟩ = some (.slice ca cs.length cc) := blk_cellZ BL2.out 2 rfl
  rcases hr with ⟨rfl, hcp⟩ | ⟨rfl, hcp⟩
  · obtain ⟨hrc, ds0, hf0⟩ := GD.out hcp j c hc
    obtain ⟨q1, q2, q3⟩ := rightC_parts hrc
    have PW := hid (HP.out.on (B2.out.mono hB))
    obtain ⟨cb, off, hca, hcb, iv, d0, d1, d2, d3, d4, hI⟩ := cdsIn_at PW.out.codes hc
    subst hca
    have DPc := hid (DP.out c iv)
    have HIv := hid hI
    have YES := hid (fun ds (h : Flow c ds) => (OUT.out ds).2 (.inl ⟨j, rfl, hcp, c, hc, h⟩))
    have Q3 := hid q3
    obtain ⟨ia, ic, rfl⟩ := insIn_shape hI
    have HF0 := hid hf0
    clear hI hcp hrc q3 hf0
    go_wp2_with fail
    refine (DPc.out _ (by omega) HIv.out q1.1 q1.2 q2 (fun k x hx hg => (okI_goes (Q3.out k x hx) hg).1)).mono ?_
    rintro e w6 ⟨ho, b6⟩
    have BW6 := hid (B2.out.trans (b6.mono (by omega)))
    clear b6
    rcases ho with ⟨ds, v, rfl, hF, hN⟩ | ⟨rfl, hF⟩
    · have R := hid (YES.out ds hF)
      have N := hid hN
      clear hF hN
      go_wp2_with fail
      go_ret
      exact ⟨⟨_, ds, rfl, R.out, N.out⟩, BW6.out⟩
    · exact absurd HF0.out (hF ds0)
  · have NO := hid ((OUT.out []).2 (.inr ⟨rfl, fun h => hcp h.2.2⟩))
    clear hcp
    go_wp2_with fail
    go_ret
    exact ⟨⟨_, [], rfl, NO.out, .inl ⟨_, _, rfl, rfl⟩⟩, B2.out⟩

end Go.Proofs.Ytciobggfefmgnaa
