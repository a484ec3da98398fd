/- May a program be, and its depths: the program's word. Has a program few instructions: the document's own word; and a program's depths: the program's. -/
import Derived.Test.YtnojlfdojmkonaaGreatDoorCdDep
namespace Go.Proofs.YtnojlfdojmkonaaGreatDoor
set_option linter.unusedSimpArgs false
set_option linter.unusedVariables false
set_option maxRecDepth 100000
open Go.RowKit

def goodC (P : Pg) (c : Cd) : Prop := rightC P.g P.pool.length P.codes.length c = true ∧ ∃ ds, Flow c ds
def checkP (P : Pg) : Prop := sizesB P = true ∧ ∀ c ∈ P.codes, goodC P c
theorem okAll_at {G P C : Int} {c : Cd} : ∀ (r : List In) (k : Nat), okAll G P C c k r = true → ∀ (i : Nat) x, r[i]? = some x → okI G P C c (k + i) x = true
  | [], _, _, _, _, h => by simp at h
  | y :: r, k, h, i, x, hx => by
    unfold okAll at h
    rw [Bool.and_eq_true] at h
    cases i with
    | zero => simp at hx; subst hx; exact h.1
    | succ i =>
      have := okAll_at r (k + 1) h.2 i x (by simpa using hx)
      rwa [show k + 1 + i = k + (i + 1) by omega] at this
theorem rightC_parts {G P C : Int} {c : Cd} (h : rightC G P C c = true) : (1 ≤ c.ins.length ∧ c.ins.length ≤ 4000) ∧ (0 ≤ c.d ∧ c.d ≤ 64) ∧ ∀ (k : Nat) x, c.ins[k]? = some x → okI G P C c k x = true := by
  unfold rightC at h
  simp only [Bool.and_eq_true] at h
  obtain ⟨_, _, _, h4, h5, h6⟩ := h
  have h5' := inZ_iff.1 h5
  refine ⟨by omega, inZ_iff.1 h4, fun k x hx => ?_⟩
  have := okAll_at _ _ h6 k x hx
  rwa [Nat.zero_add] at this
theorem okI_goes {G P C : Int} {c : Cd} {k : Nat} {x : In} (h : okI G P C c k x = true) (hg : goB x.1 = true) : 0 ≤ x.2.1 ∧ x.2.1 ≤ (c.ins.length : Int) - 1 := by
  unfold okI at h
  rw [Bool.and_eq_true] at h
  have h1 := h.1
  unfold rightI at h1
  rw [span_goes hg] at h1
  simp only [Bool.and_eq_true] at h1
  exact inZ_iff.1 h1.2.1
theorem okI_back {G P C : Int} {c : Cd} {k : Nat} {x : In} (h : okI G P C c k x = true) (hg : goB x.1 = true) (hk : x.2.1 ≤ k) : opA c.ins x.2.1.toNat = 1 := by
  unfold okI at h
  rw [Bool.and_eq_true, hg, decide_eq_true hk] at h
  simpa using h.2
/-- a program that came in -/
structure PgIn (B : Nat) (w : World) (P : Pg) (pv cv : Value) : Prop where
  pool : PlIn B w pv P.pool
  codes : CdsIn B w cv P.codes
  few : P.pool.length ≤ 1000000 ∧ P.codes.length ≤ 1000000
  ins : ∀ c ∈ P.codes, c.ins.length ≤ 1000000
  strs : ∀ s ∈ P.pool, s.size ≤ maxLen
theorem PgIn.on {B : Nat} {P : Pg} {pv cv : Value} {a c : World} (h : PgIn B a P pv cv) (q : Below B a c) : PgIn B c P pv cv := ⟨plIn_on h.pool q, cdsIn_on h.codes q, h.few, h.ins, h.strs⟩
theorem cd_cells (w : World) (c : Cd) (iv : Value) (T : TypeId) : let W := w.alloc (.cells #[.int .i64 c.p, .int .i64 c.l, .int .i64 c.s, .int .i64 c.d, iv] T)
    W.cell? ⟨w.heap.size, 0, none⟩ = some (.int .i64 c.p) ∧ W.cell? ⟨w.heap.size, 1, none⟩ = some (.int .i64 c.l) ∧ W.cell? ⟨w.heap.size, 2, none⟩ = some (.int .i64 c.s) ∧ W.cell? ⟨w.heap.size, 3, none⟩ = some (.int .i64 c.d) ∧ W.cell? ⟨w.heap.size, 4, none⟩ = some iv :=
  have h := blk_new w T #[.int .i64 c.p, .int .i64 c.l, .int .i64 c.s, .int .i64 c.d, iv]
  ⟨blk_cellZ h 0 rfl, blk_cellZ h 1 rfl, blk_cellZ h 2 rfl, blk_cellZ h 3 rfl, blk_cellZ h 4 rfl⟩
set_option maxHeartbeats 3200000 in
theorem ccheck_calls (B : Nat) (P : Pg) (pv cv : Value) (w : World) (hB : B ≤ w.heap.size) (hP : PgIn B w P pv cv) :
    Calls Tryz.prog 17 #[pgV P pv cv] w fun e w' => (∃ r, e = .returned (.int .i64 r) ∧ ((r = 0 ∧ checkP P) ∨ (r = 16 ∧ ¬ checkP P))) ∧ Below w.heap.size w w' := by
  have SZ := hid (fun W (q : Below B w W) => sizes_calls B P pv cv W (Nat.le_trans hB q.size) (hP.on q).pool (hP.on q).codes hP.few.1 hP.few.2 hP.strs)
  have RC := hid (fun G (c : Cd) iv W pa ca pn pc cn cc => rcode_calls B G c iv pa ca pn pc cn cc W)
  have DP := hid (fun (c : Cd) iv W => depths_calls B c iv W)
  have CK := hid (show checkP P ↔ sizesB P = true ∧ ∀ c ∈ P.codes, goodC P c from Iff.rfl)
  have GD := hid (show ∀ c, goodC P c ↔ rightC P.g P.pool.length P.codes.length c = true ∧ ∃ ds, Flow c ds from fun _ => Iff.rfl)
  have HG := hid (show sizesB P = true → 0 ≤ P.g ∧ P.g ≤ 1000 from fun h => by
    unfold sizesB at h
    simp only [Bool.and_eq_true] at h
    have := inZ_iff.1 h.1
    omega)
  generalize hck : checkP P = CP at *
  generalize hgd : goodC P = GC at *
  generalize sizesB P = SB at *
  obtain ⟨G, ss, cs⟩ := P
  simp only [pgV] at *
  clear hck hgd
  obtain ⟨pa, pc, rfl⟩ := plIn_shape hP.pool
  obtain ⟨ca, cc, rfl⟩ := cdsIn_shape hP.codes
  have hfew := hP.few
  have HP := hid hP
  simp only at hfew
  clear hP
  have AL := hid (box_below w (.cells #[.int .i64 G, .slice pa ss.length pc, .slice ca cs.length cc] 25))
  have BL := hid (blk_new w 25 #[.int .i64 G, .slice pa ss.length pc, .slice ca cs.length cc])
  generalize hW : w.alloc (.cells #[.int .i64 G, .slice pa ss.length pc, .slice ca cs.length cc] 25) = w1 at *
  have hsz := AL.out.size
  have p0 : w1.cell? ⟨w.heap.size, 0, none⟩ = some (.int .i64 G) := blk_cellZ BL.out 0 rfl
  have p1 : w1.cell? ⟨w.heap.size, 1, none⟩ = some (.slice pa ss.length pc) := blk_cellZ BL.out 1 rfl
  have p2 : w1.cell? ⟨w.heap.size, 2, none⟩ = some (.slice ca cs.length cc) := blk_cellZ BL.out 2 rfl
  cases SB with
  | false =>
    go_enter Tryz.func17, Tryz.ntmps17
    go_wp2_with fail
    refine (SZ.out _ (AL.out.mono hB)).mono ?_
    rintro e w2 ⟨rfl, b2⟩
    have B2 := hid (AL.out.trans (b2.mono hsz))
    clear b2
    go_wp2_with fail
    go_ret
    exact ⟨⟨16, rfl, .inr ⟨rfl, fun h => by have := (CK.out.1 h).1; cases this⟩⟩, B2.out⟩
  | true =>
  have hG := HG.out rfl
  go_enter Tryz.func17, Tryz.ntmps17
  go_wp2_with fail
  refine (SZ.out _ (AL.out.mono hB)).mono ?_
  rintro e w2 ⟨rfl, b2⟩
  have hs2 := b2.size
  have B2 := hid (AL.out.trans (b2.mono hsz))
  have BL2 := hid (blk_on BL.out b2)
  clear b2 p0 p1 p2
  have p2 : w2.cell? ⟨w.heap.size, 2, none⟩ = some (.slice ca cs.length cc) := blk_cellZ BL2.out 2 rfl
  go_wp2_with fail
  clear p2
  go_loopw [13] (fun iV wr => ∃ i : Nat, i ≤ cs.length ∧ iV = .int .i64 i ∧ Hid (∀ (k : Nat) c, k < i → cs[k]? = some c → GC c) ∧ Hid (Below w2.heap.size w2 wr)) (fun iV _ => cs.length - (intOf iV).toNat)
  case atStart => exact ⟨0, by omega, rfl, hid (fun k c hk => absurd hk (Nat.not_lt_zero _)), hid (Below.refl _ _)⟩
  case round =>
    obtain ⟨i, hi, rfl, hA, hL⟩ := hrel
    have BW := hid (B2.out.trans (hL.out.mono (by omega)))
    by_cases hil : i < cs.length
    · obtain ⟨c, hc⟩ : ∃ c, cs[i]? = some c := ⟨_, List.getElem?_eq_getElem hil⟩
      have hil' : (i : Int) < (cs.length : Int) := by omega
      have PW := hid (HP.out.on (BW.out.mono hB))
      have hci := HP.out.ins c (List.mem_of_getElem? hc)
      obtain ⟨cb, off, hca, hcb, iv, d0, d1, d2, d3, d4, hI⟩ := cdsIn_at PW.out.codes hc
      subst hca
      have GDc := hid (GD.out c)
      have RCc := hid (RC.out G c iv)
      have DPc := hid (DP.out c iv)
      have PT := hid (fun h => rightC_parts (G := G) (P := ss.length) (C := cs.length) (c := c) h)
      have hmem := List.mem_of_getElem? hc
      have HIv := hid hI
      have BLr := hid (blk_on BL2.out hL.out)
      have CC := cd_cells wr c iv 45
      have X4 := hid (box_below wr (.cells #[.int .i64 c.p, .int .i64 c.l, .int .i64 c.s, .int .i64 c.d, iv] 45))
      have C4 := hid (blk_new wr 45 #[.int .i64 c.p, .int .i64 c.l, .int .i64 c.s, .int .i64 c.d, iv])
      obtain ⟨ia, ic, rfl⟩ := insIn_shape hI
      clear hI
      have hsr := BW.out.size
      have BL4 := hid (blk_on BLr.out X4.out)
      have HI4 := hid (insIn_on HIv.out (X4.out.mono (by omega)))
      have BW4 := hid (BW.out.trans (X4.out.mono (by omega)))
      have L4 := hid (hL.out.trans (X4.out.mono hL.out.size))
      have hs4 : (wr.alloc (.cells #[.int .i64 c.p, .int .i64 c.l, .int .i64 c.s, .int .i64 c.d, .slice ia c.ins.length ic] 45)).heap.size = wr.heap.size + 1 := by simp
      go_upto_region 6 with fail
      generalize hW4 : wr.alloc (.cells #[.int .i64 c.p, .int .i64 c.l, .int .i64 c.s, .int .i64 c.d, .slice ia c.ins.length ic] 45) = w4 at *
      clear d0 d1 d2 d3 d4
      obtain ⟨e0, e1, e2, e3, e4⟩ := CC
      have p0 : w4.cell? ⟨w.heap.size, 0, none⟩ = some (.int .i64 G) := blk_cellZ BL4.out 0 rfl
      have p1 : w4.cell? ⟨w.heap.size, 1, none⟩ = some (.slice pa ss.length pc) := blk_cellZ BL4.out 1 rfl
      have p2 : w4.cell? ⟨w.heap.size, 2, none⟩ = some (.slice (some ⟨cb, off, none⟩) cs.length cc) := blk_cellZ BL4.out 2 rfl
      go_wp2_with fail
      refine (RCc.out _ _ _ _ _ _ _ (by omega) HI4.out hG hfew.1 hfew.2 hci).mono ?_
      rintro e w5 ⟨rfl, b5⟩
      have hs5 := b5.size
      have BW5 := hid (BW4.out.trans (b5.mono (by omega)))
      have L5 := hid (L4.out.trans (b5.mono L4.out.size))
      have C5 := hid (blk_on C4.out b5)
      have HI5 := hid (insIn_on HI4.out (b5.mono (by omega)))
      clear b5 p0 p1 p2 e0 e1 e2 e3 e4
      have e0 : w5.cell? ⟨wr.heap.size, 0, none⟩ = some (.int .i64 c.p) := blk_cellZ C5.out 0 rfl
      have e1 : w5.cell? ⟨wr.heap.size, 1, none⟩ = some (.int .i64 c.l) := blk_cellZ C5.out 1 rfl
      have e2 : w5.cell? ⟨wr.heap.size, 2, none⟩ = some (.int .i64 c.s) := blk_cellZ C5.out 2 rfl
      have e3 : w5.cell? ⟨wr.heap.size, 3, none⟩ = some (.int .i64 c.d) := blk_cellZ C5.out 3 rfl
      have e4 : w5.cell? ⟨wr.heap.size, 4, none⟩ = some (.slice ia c.ins.length ic) := blk_cellZ C5.out 4 rfl
      cases hrc : rightC G ss.length cs.length c with
      | false =>
        have NO := hid (show ¬ CP from fun h => by
          have h2 := (CK.out.1 h).2 c hmem
          rw [GDc.out, hrc] at h2
          cases h2.1)
        clear hrc
        go_wp2_with fail
        go_ret
        exact ⟨⟨16, rfl, .inr ⟨rfl, NO.out⟩⟩, BW5.out⟩
      | true =>
        obtain ⟨q1, q2, q3⟩ := PT.out hrc
        have GDt := hid (show GC c ↔ ∃ ds, Flow c ds from GDc.out.trans ⟨fun h => h.2, fun h => ⟨hrc, h⟩⟩)
        clear hrc
        go_wp2_with fail
        refine (DPc.out _ (by omega) HI5.out q1.1 q1.2 q2 (fun k x hx hg => (okI_goes (q3 k x hx) hg).1)).mono ?_
        rintro e w6 ⟨ho, b6⟩
        have BW6 := hid (BW5.out.trans (b6.mono (by omega)))
        have L6 := hid (L5.out.trans (b6.mono L5.out.size))
        clear b6
        rcases ho with ⟨ds, v, rfl, hF, hN⟩ | ⟨rfl, hF⟩
        · have A6 := hid (show ∀ (k : Nat) c, k < i + 1 → cs[k]? = some c → GC c from fun k c' hk hc' => by
            by_cases hki : k = i
            · subst hki
              rw [hc] at hc'
              obtain rfl := Option.some.inj hc'
              exact GDt.out.2 ⟨ds, hF⟩
            · exact hA.out k c' (by omega) hc')
          clear hF hN
          go_wp2_with fail
          exact ⟨⟨i + 1, by omega, by simp, A6, L6⟩, by simp [intOf]; omega⟩
        · have NO := hid (show ¬ CP from fun h => by
            obtain ⟨ds, hd⟩ := GDt.out.1 ((CK.out.1 h).2 c hmem)
            exact hF ds hd)
          clear hF
          go_wp2_with fail
          go_ret
          exact ⟨⟨16, rfl, .inr ⟨rfl, NO.out⟩⟩, BW6.out⟩
    · have hie : i = cs.length := by omega
      subst hie
      have YES := hid (show CP from CK.out.2 ⟨by simp, fun c hc => by
        obtain ⟨k, hk⟩ := List.getElem?_of_mem hc
        exact hA.out k c (List.getElem?_eq_some_iff.1 hk).1 hk⟩)
      go_wp2_with fail
      go_ret
      exact ⟨⟨0, rfl, .inl ⟨rfl, YES.out⟩⟩, BW.out⟩

end Go.Proofs.YtnojlfdojmkonaaGreatDoor

namespace Go.Proofs.YtnojlfdojmkonaaGreatDoor
set_option linter.unusedSimpArgs false
set_option linter.unusedVariables false
set_option maxRecDepth 100000
open Go.RowKit

/-- few instructions, and strings -/
def FewG (P : Pg) : Prop := P.pool.length ≤ 130 ∧ P.codes.length ≤ 40 ∧ ∀ c ∈ P.codes, c.ins.length ≤ 400
def FewOut (F : Prop) (e : Ending) : Prop := ∃ r, e = .returned (.bool r) ∧ (r = true → F)
def DptRet (D : List Int → Prop) (e : Ending) (w : World) : Prop := ∃ v ds, e = .returned v ∧ D ds ∧ NsIn w.heap.size w v ds
set_option maxHeartbeats 3200000 in
theorem cfew_calls (B : Nat) (P : Pg) (pv cv : Value) (w : World) (hB : B ≤ w.heap.size) (hP : PlIn B w pv P.pool) (hC : CdsIn B w cv P.codes) :
    Calls Tryz.prog 7 #[pgV P pv cv, .int .i64 400] w fun e w' => FewOut (FewG P) e ∧ Below w.heap.size w w' := by
  have FW := hid (show FewG P ↔ P.pool.length ≤ 130 ∧ P.codes.length ≤ 40 ∧ ∀ c ∈ P.codes, c.ins.length ≤ 400 from Iff.rfl)
  generalize FewG P = FG at *
  obtain ⟨G, ss, cs⟩ := P
  simp only [pgV] at *
  obtain ⟨pa, pc, rfl⟩ := plIn_shape hP
  obtain ⟨ca, cc, rfl⟩ := cdsIn_shape hC
  have HC := hid hC
  clear hP hC
  have AL := hid (box_below w (.cells #[.int .i64 G, .slice pa ss.length pc, .slice ca cs.length cc] 25))
  have BL := hid (blk_new w 25 #[.int .i64 G, .slice pa ss.length pc, .slice ca cs.length cc])
  have hsz : (w.alloc (.cells #[.int .i64 G, .slice pa ss.length pc, .slice ca cs.length cc] 25)).heap.size = w.heap.size + 1 := by simp
  generalize hW : w.alloc (.cells #[.int .i64 G, .slice pa ss.length pc, .slice ca cs.length cc] 25) = w1 at *
  have p1 : w1.cell? ⟨w.heap.size, 1, none⟩ = some (.slice pa ss.length pc) := blk_cellZ BL.out 1 rfl
  have p2 : w1.cell? ⟨w.heap.size, 2, none⟩ = some (.slice ca cs.length cc) := blk_cellZ BL.out 2 rfl
  by_cases h1 : 40 < cs.length
  · have h1' : (40 : Int) < (cs.length : Int) := by omega
    go_enter Tryz.func7, Tryz.ntmps7
    go_wp2_with fail
    go_ret
    exact ⟨⟨false, rfl, fun h => by cases h⟩, AL.out⟩
  have h1' : ¬ (40 : Int) < (cs.length : Int) := by omega
  by_cases h2 : 130 < ss.length
  · have h2' : (130 : Int) < (ss.length : Int) := by omega
    go_enter Tryz.func7, Tryz.ntmps7
    go_wp2_with fail
    go_ret
    exact ⟨⟨false, rfl, fun h => by cases h⟩, AL.out⟩
  have h2' : ¬ (130 : Int) < (ss.length : Int) := by omega
  have HC1 := hid (cdsIn_on HC.out (AL.out.mono hB))
  go_enter Tryz.func7, Tryz.ntmps7
  go_wp2_with fail
  go_loopw [1, 5] (fun mV iV wr => ∃ i m : Nat, i ≤ cs.length ∧ m ≤ 400 ∧ mV = .int .i64 m ∧ iV = .int .i64 i ∧ Hid (∀ (k : Nat) c, k < i → cs[k]? = some c → c.ins.length ≤ 400) ∧ w1 = wr) (fun _ iV _ => cs.length - (intOf iV).toNat)
  case atStart => exact ⟨0, 400, by omega, by omega, rfl, rfl, hid (fun k c hk => absurd hk (Nat.not_lt_zero _)), rfl⟩
  case round =>
    obtain ⟨i, m, hi, hm, rfl, rfl, hA, rfl⟩ := hrel
    by_cases hil : i < cs.length
    · obtain ⟨c, hc⟩ : ∃ c, cs[i]? = some c := ⟨_, List.getElem?_eq_getElem hil⟩
      have hil' : (i : Int) < (cs.length : Int) := by omega
      obtain ⟨cb, off, hca, hcb, iv, d0, d1, d2, d3, d4, hI⟩ := cdsIn_at HC1.out hc
      subst hca
      obtain ⟨ia, ic, rfl⟩ := insIn_shape hI
      clear hI d0 d1 d2 d3
      by_cases hl : m < c.ins.length
      · have hl' : (m : Int) < (c.ins.length : Int) := by omega
        go_wp2_with fail
        go_ret
        exact ⟨⟨false, rfl, fun h => by cases h⟩, AL.out⟩
      · have hl' : ¬ (m : Int) < (c.ins.length : Int) := by omega
        have A2 := hid (show ∀ (k : Nat) c, k < i + 1 → cs[k]? = some c → c.ins.length ≤ 400 from fun k c' hk hc' => by
          by_cases hki : k = i
          · subst hki
            rw [hc] at hc'
            obtain rfl := Option.some.inj hc'
            omega
          · exact hA.out k c' (by omega) hc')
        go_wp2_with fail
        exact ⟨⟨i + 1, m - c.ins.length, by omega, by omega, by simp; omega, by simp, A2, by first | rfl | trivial⟩, by simp [intOf]; omega⟩
    · have hie : i = cs.length := by omega
      subst hie
      have YES := hid (show FG from FW.out.2 ⟨by omega, by omega, fun c hc => by
        obtain ⟨k, hk⟩ := List.getElem?_of_mem hc
        exact hA.out k c (List.getElem?_eq_some_iff.1 hk).1 hk⟩)
      go_wp2_with fail
      go_ret
      exact ⟨⟨true, rfl, fun _ => YES.out⟩, AL.out⟩
/-- what Depths answers -/
def DptOut (P : Pg) (f : Int) (ds : List Int) : Prop := (∃ j : Nat, f = j ∧ checkP P ∧ ∃ c, P.codes[j]? = some c ∧ Flow c ds) ∨ (ds = [] ∧ ¬ (0 ≤ f ∧ f < P.codes.length ∧ checkP P))
end Go.Proofs.YtnojlfdojmkonaaGreatDoor
