/- Each site is one instruction's alone, in their order; no string is in the pool twice, and each is used: of any unit of at most 40 functions, at most 60 statements a body, and at most 300 nodes, at most 40 high, with texts of at most 600 bytes and at most 60 names of at most 100 bytes (else the law asks its own test alone), Unit tells an error, or a program that is so: CompileSites is true for every input; no condition. -/
import Derived.Test.YtgdbaceehpcgbaaDoorJoint24
import Derived.Test.YtgdbaceehpcgbaaDoorJoint5
import Derived.Test.YtgdbaceehpcgbaaDoorJoint23
import Derived.Test.YtgdbaceehpcgbaaDoorJoint10
import Derived.Test.YtgdbaceehpcgbaaDoorRows
import Derived.WalkKit
import Derived.ProofKit
import Derived.OpenShut
import Derived.ShutString
import Derived.ChangeOld
import Derived.Below
import Derived.Test.YtgdbaceehpcgbaaDoorTie
import Derived.Test.YtgdbaceehpcgbaaDoorCards
import Derived.SevenTiedAt
import Derived.Stop.Joined
import Derived.Carry
namespace Go.Proofs.YtgdbaceehpcgbaaDoor.compileSites
open Go.ChangeShapes Go.WideShapes Go.ChangeAt Go.RowKit
open Go.ChangeMaps (open_string shut_string)
set_option linter.unusedVariables false
set_option maxRecDepth 100000

theorem own : ownKnob Tryd.prog.godebug = none := by kernel_rfl

set_option linter.unusedSimpArgs false
set_option linter.unusedVariables false
theorem use_in {G P C : Int} {c : Cd} : ∀ {r : List In} {k : Nat}, okAll G P C c k r = true → ∀ x ∈ r, useB x.1 = true → 0 ≤ x.2.1 ∧ x.2.1 ≤ P - 1
  | [], _, _, x, hx, _ => by cases hx
  | y :: r, k, h, x, hx, hu => by
    rw [okAll, Bool.and_eq_true] at h
    rcases List.mem_cons.1 hx with rfl | hx
    · have h1 := h.1
      unfold okI rightI at h1
      rw [Bool.and_eq_true, Bool.and_eq_true, Bool.and_eq_true] at h1
      have h2 := inZ_iff.1 h1.1.2.1
      have hs : spanP G P C c.l c.ins.length x.1 = (0, P - 1) := by
        unfold useB siteB at hu
        simp only [Bool.or_eq_true, beq_iff_eq] at hu
        unfold spanP
        rcases hu with (h | h | h | h) | h | h <;> rw [h] <;> rfl
      rw [hs] at h2
      exact h2
    · exact use_in h.2 x hx hu
theorem used_all {G P C : Int} {c : Cd} (h : rightC G P C c = true) : (∀ x ∈ c.ins, useB x.1 = true → 0 ≤ x.2.1 ∧ x.2.1 ≤ P - 1) ∧ c.ins.length ≤ 4000 ∧ 0 ≤ c.s ∧ c.s ≤ 4000 := by
  unfold rightC at h
  simp only [Bool.and_eq_true] at h
  have h5 := inZ_iff.1 h.2.2.2.2.1
  have h3 := inZ_iff.1 h.2.2.1
  exact ⟨use_in h.2.2.2.2.2, by omega, h3.1, h3.2⟩
/-- the instructions gone through -/
def doneL (cs : List Cd) (f : Nat) : List In := ((cs.take f).map Cd.ins).flatten
theorem doneL_step {cs : List Cd} {f : Nat} (h : f < cs.length) : doneL cs (f + 1) = doneL cs f ++ cs[f].ins := by
  unfold doneL
  rw [List.take_succ_eq_append_getElem h, List.map_append, List.flatten_append]
  simp
/-- their strings are marked -/
def MarkL (U : List Bool) (l : List In) : Prop := ∀ x ∈ l, useB x.1 = true → ∃ a : Nat, x.2.1 = a ∧ U[a]? = some true
theorem MarkL.set {U : List Bool} {l : List In} (h : MarkL U l) (a : Nat) : MarkL (U.set a true) l := fun x hx hu => by
  obtain ⟨b, hb, hU⟩ := h x hx hu
  refine ⟨b, hb, ?_⟩
  rw [List.getElem?_set]
  split
  · rename_i e
    subst e
    rw [if_pos (List.getElem?_eq_some_iff.1 hU).1]
  · exact hU
theorem MarkL.snoc {U : List Bool} {l : List In} {x : In} (h : MarkL U l) (hx : useB x.1 = true → ∃ a : Nat, x.2.1 = a ∧ U[a]? = some true) : MarkL U (l ++ [x]) := fun y hy hu => by
  rcases List.mem_append.1 hy with hy | hy
  · exact h y hy hu
  · rw [List.mem_singleton.1 hy] at hu ⊢
    exact hx hu
theorem pl_two {B : Nat} {w : World} {ao : Option Addr} {cap j k : Nat} {L : List ByteArray} {s t : ByteArray} (h : PlIn B w (.slice ao L.length cap) L) (hj : L[j]? = some s) (hk : L[k]? = some t) : ∃ b off, ao = some ⟨b, off, none⟩ ∧ b < B ∧ w.cell? ⟨b, off + j, none⟩ = some (.string s) ∧ w.cell? ⟨b, off + k, none⟩ = some (.string t) := by
  rcases h with ⟨ao', cap', e, rfl⟩ | ⟨b, off, cap', e, hb, h⟩
  · simp at hj
  · injection e with e1
    exact ⟨b, off, e1, hb, h j s hj, h k t hk⟩
def BoolR (g : Nat) (U : List Bool) (w : World) : Prop := Blk g 4 (U.map Value.bool).toArray w
theorem br_cell {g j : Nat} {U : List Bool} {x : Bool} {w : World} (h : BoolR g U w) (hj : U[j]? = some x) : w.cell? ⟨g, j, none⟩ = some (.bool x) := by
  rw [blk_cell h]
  simp [hj]
theorem br_set {g j : Nat} {U : List Bool} {w : World} (h : BoolR g U w) : BoolR g (U.set j true) (w.setCell ⟨g, j, none⟩ (.bool true)) := by
  have := blk_set h j (.bool true)
  unfold BoolR
  rw [List.map_set]
  simpa using this
theorem made_bools (n : Nat) : madeCells #[Value.bool false] n = ((List.replicate n false).map Value.bool).toArray := by
  apply Array.ext
  · simp [size_madeCells]
  · intro i h1 h2
    simp [madeCells, Nat.mod_one]
theorem infoBool : ∃ i0, Tryd.prog.info? 4 = some i0 ∧ i0.zero = some (.bool false) ∧ i0.size = 1 ∧ i0.bytes = 1 :=
  info_parts (show (Tryd.prog.info? 4).map (fun i => (i.zero, i.size, i.bytes)) = some (some (.bool false), 1, 1) by kernel_rfl)
theorem underBools : Tryd.prog.underlying 49 = some (.slice 4) := by kernel_rfl
set_option maxHeartbeats 6400000 in
set_option maxRecDepth 100000 in
theorem walk_sites (G : Int) (fv : Value) (fs : List Fq) (w : World) (H0 : Hid (FnsIn w.heap.size w fv fs)) (HO : Hid (Ok w.heap.size w)) :
    Calls Tryd.prog 6 #[.agg #[.int .i64 G, fv]] w fun e w' => e = .returned (.bool true) ∧ Below w.heap.size w w' := by
  obtain ⟨fa, fc, rfl⟩ := fnsIn_shape H0.out
  have HOK := hid (fun c (q : Below w.heap.size w c) => ok_up q.size (Nat.le_refl _) (ok_on HO.out q))
  have FW := hid (fun W (q : Below w.heap.size w W) => ufewt_calls G (.slice fa fs.length fc) fs w.heap.size W q.size (hid (fnsIn_on H0.out q)))
  have AL := hid (box_below w (.cells #[.int .i64 G, .slice fa fs.length fc] 24))
  have BL := hid (blk_new w 24 #[.int .i64 G, .slice fa fs.length fc])
  have hsz : (w.alloc (.cells #[.int .i64 G, .slice fa fs.length fc] 24)).heap.size = w.heap.size + 1 := by simp
  generalize hW : w.alloc (.cells #[.int .i64 G, .slice fa fs.length fc] 24) = w1 at *
  have LOW := hid (fun (W : World) (q : Below w1.heap.size w1 W) => AL.out.trans (q.mono (by omega)))
  have CELLS := hid (fun (W : World) (q : Below w1.heap.size w1 W) => (show W.cell? ⟨w.heap.size, 0, none⟩ = some (.int .i64 G) ∧ W.cell? ⟨w.heap.size, 1, none⟩ = some (.slice fa fs.length fc) from
    have h := blk_on BL.out q
    ⟨blk_cellZ h 0 rfl, blk_cellZ h 1 rfl⟩))
  obtain ⟨p0, p1⟩ := CELLS.out w1 (Below.refl _ _)
  go_enter Tryd.func6, Tryd.ntmps6
  go_wp2_with fail
  refine (FW.out _ AL.out).mono ?_
  rintro e w2 ⟨⟨r, rfl, hfew⟩, b2⟩
  have L2 := hid b2
  clear b2 p0 p1 hW
  cases r with
  | false =>
    clear hfew
    go_wp2_with fail
    refine (works15_calls _ (HOK.out _ (LOW.out _ L2.out))).mono ?_
    rintro e w3 ⟨rfl, b3⟩
    have B3 := hid (LOW.out _ (below_in L2.out (Nat.le_refl _) b3))
    clear b3
    go_wp2_with fail
    go_ret
    exact ⟨rfl, B3.out⟩
  | true =>
  have FEW := hid (hfew rfl)
  have hcnt : cntU fs ≤ 300 := (hfew rfl).2
  have hfl : fs.length ≤ 40 := (hfew rfl).1.1
  clear hfew
  have UC := hid (fun W (q : Below w.heap.size w W) => unit_calls G fs W.heap.size W (.slice fa fs.length fc) (hid (HOK.out W q)) (hid (cfnsIn_up q.size (fnsIn_on H0.out q))) (hid (fewU_ofV FEW.out.1)) hcnt hfl)
  obtain ⟨p0, p1⟩ := CELLS.out w2 L2.out
  go_wp2_with fail
  refine (UC.out _ (LOW.out _ L2.out)).mono ?_
  rintro e w3 ⟨hUO, b3⟩
  obtain ⟨g, pa, pn, pc, ca, cn, cc, x, rfl, hA⟩ := unit_any hUO
  have UA := hid hA
  have L3 := hid (L2.out.trans (b3.mono L2.out.size))
  have D3 := hid ((Below.refl w3.heap.size w3).alloc (Nat.le_refl _) (.cells #[.int .i64 g, .slice pa pn pc, .slice ca cn cc] 30))
  have BP := hid (blk_new w3 30 #[.int .i64 g, .slice pa pn pc, .slice ca cn cc])
  clear b3 hUO hA p0 p1 UC
  have h3w : w3.heap.size < (w3.alloc (.cells #[.int .i64 g, .slice pa pn pc, .slice ca cn cc] 30)).heap.size := by simp
  go_upto_region 4 with fail
  generalize hW3 : w3.alloc (.cells #[.int .i64 g, .slice pa pn pc, .slice ca cn cc] 30) = w4 at *
  clear hW3 h3w
  have L4 := hid (L3.out.trans (D3.out.mono L3.out.size))
  have PC := hid (fun (W : World) (q : Below w4.heap.size w4 W) => (show W.cell? ⟨w3.heap.size, 0, none⟩ = some (.int .i64 g) ∧ W.cell? ⟨w3.heap.size, 1, none⟩ = some (.slice pa pn pc) ∧ W.cell? ⟨w3.heap.size, 2, none⟩ = some (.slice ca cn cc) from
    have h := blk_on BP.out q
    ⟨blk_cellZ h 0 rfl, blk_cellZ h 1 rfl, blk_cellZ h 2 rfl⟩))
  by_cases hx0 : x = 0
  case neg =>
    rcases UA.out with ⟨_, rfl, _, _⟩ | ⟨h1, _⟩
    · have hd : (x != 0) = true := by simpa using hx0
      obtain ⟨q0, q1, q2⟩ := PC.out w4 (Below.refl _ _)
      clear UA PC
      go_wp2_with fail
      refine (works15_calls _ (HOK.out _ (LOW.out _ L4.out))).mono ?_
      rintro e w7 ⟨rfl, b7⟩
      have L7 := hid (LOW.out _ (L4.out.trans (b7.mono L4.out.size)))
      clear b7
      go_wp2_with fail
      go_ret
      exact ⟨rfl, L7.out⟩
    · exact absurd h1 hx0
  case pos =>
  rcases UA.out with ⟨h1, _⟩ | ⟨_, rfl, cs, L, hu, rfl, rfl, hP⟩
  · exact absurd hx0 h1
  obtain ⟨u1, u2, u3, u4⟩ := unit_ok hu
  have HR := hid (fun c hc => used_all (u4 c hc).1)
  have HS := hid (built_sites u1)
  have HN := hid (built_new u1)
  have hcl : cs.length ≤ 40 := by omega
  have hLl : L.length ≤ 120 := by
    unfold sizesB at u3
    simp only [Bool.and_eq_true] at u3
    exact of_decide_eq_true u3.2.2.1
  have CI := hid (fun (W : World) (q : Below w4.heap.size w4 W) => cdsIn_on hP.codes (D3.out.trans (q.mono D3.out.size)))
  have PI := hid (fun (W : World) (q : Below w4.heap.size w4 W) => plIn_on hP.pool (D3.out.trans (q.mono D3.out.size)))
  have hd : (x != 0) = false := by simp [hx0]
  obtain ⟨i0, hi0, hz0, hz1, hz2⟩ := infoBool
  obtain ⟨q0, q1, q2⟩ := PC.out w4 (Below.refl _ _)
  clear UA hP hu u1 u2 u3 u4 hx0 H0 FEW
  have NB := hid (show BoolR w4.heap.size (List.replicate L.length false) (w4.alloc (.cells (Array.replicate L.length (.bool false)) 4)) from by have := blk_new w4 4 (Array.replicate L.length (.bool false)); unfold BoolR; simpa using this)
  have NA := hid ((Below.refl w4.heap.size w4).alloc (Nat.le_refl _) (.cells (Array.replicate L.length (.bool false)) 4))
  go_wp2_with (first | (at_make; go_loud (refine wpList_make_row _ rfl _ _ _ rfl _ i0 _ underBools hi0 hz0 hz1 rfl .i64 .i64 L.length (by rfl) (by rfl) (by rw [hz2]; omega) (by omega) ?_; rw [made_bools])) | fail)
  generalize w4.alloc (.cells (Array.replicate L.length (.bool false)) 4) = w5 at *
  clear q0 q1 q2
  go_loopw [6] (fun fV wr => ∃ (f : Nat) (U : List Bool), f ≤ cs.length ∧ fV = .int .i64 f ∧ U.length = L.length ∧ Hid (MarkL U (doneL cs f)) ∧ Hid (Below w4.heap.size w4 wr) ∧ Hid (BoolR w4.heap.size U wr)) (fun fV _ => cs.length - (intOf fV).toNat)
  case atStart => exact ⟨0, _, by omega, rfl, by simp, hid (fun x hx => by rw [show doneL cs 0 = [] from rfl] at hx; cases hx), NA, NB⟩
  case round =>
    obtain ⟨f, U, hf, rfl, hUl, HM, hL, HB⟩ := hrel
    rename World => wo
    obtain ⟨q0, q1, q2⟩ := PC.out wo hL.out
    by_cases hfl : f < cs.length
    · have hy : cs[f]? = some cs[f] := List.getElem?_eq_getElem hfl
      obtain ⟨b2, off2, rfl, hbB2, iv, _, _, e2, _, e4, hI4⟩ := cdsIn_at (CI.out w4 (Below.refl _ _)) hy
      obtain ⟨r1, r2, r3, r4⟩ := HR.out cs[f] (List.getElem_mem hfl)
      have hst := HS.out cs[f] (List.getElem_mem hfl)
      have HD := hid (doneL_step hfl)
      generalize cs[f] = c at *
      obtain ⟨ia, ic, rfl⟩ := insIn_shape hI4
      have hb4 : b2 < w4.heap.size := by have := D3.out.size; omega
      have E4 := hid (fun (W : World) (q : Below w4.heap.size w4 W) => (show W.cell? ⟨b2, off2 + f * 5 + 4, none⟩ = some (.slice ia c.ins.length ic) ∧ W.cell? ⟨b2, off2 + f * 5 + 2, none⟩ = some (.int .i64 c.s) from ⟨(q.cell (p := ⟨b2, off2 + f * 5 + 4, none⟩) hb4).trans e4, (q.cell (p := ⟨b2, off2 + f * 5 + 2, none⟩) hb4).trans e2⟩))
      have II := hid (fun (W : World) (q : Below w4.heap.size w4 W) => insIn_on hI4 (q.mono D3.out.size))
      have HRG := hid r1
      have HST := hid hst
      clear hy e2 e4 hI4 r1 hst CI
      obtain ⟨k4, k2⟩ := E4.out wo hL.out
      go_wp2_with fail
      clear q0 q1 q2 k4 k2
      go_loopw [7, 8] (fun sV kV wr' => ∃ (k : Nat) (σ : Int) (U : List Bool), k ≤ c.ins.length ∧ kV = .int .i64 k ∧ sV = .int .i64 σ ∧ (0 ≤ σ ∧ σ ≤ k) ∧ Hid (sitG (c.ins.drop k) σ = some c.s) ∧ U.length = L.length ∧ Hid (MarkL U (doneL cs f ++ c.ins.take k)) ∧ Hid (Below w4.heap.size w4 wr') ∧ Hid (BoolR w4.heap.size U wr')) (fun _ kV _ => c.ins.length - (intOf kV).toNat)
      case atStart => exact ⟨0, 0, U, by omega, rfl, rfl, by omega, by rw [List.drop_zero]; exact HST, hUl, by rw [List.take_zero, List.append_nil]; exact HM, hL, HB⟩
      case round =>
        clear HM HB hUl
        obtain ⟨k, σ, U, hk, rfl, rfl, hσ, HE, hUl, HM, hI, HB⟩ := hrel
        rename World => wi
        obtain ⟨q0, q1, q2⟩ := PC.out wi hI.out
        obtain ⟨k4, k2⟩ := E4.out wi hI.out
        by_cases hkl : k < c.ins.length
        · have hx : c.ins[k]? = some c.ins[k] := List.getElem?_eq_getElem hkl
          obtain ⟨ib, ioff, rfl, hib, c0, c1, c2⟩ := insIn_at (II.out wi hI.out) hx
          have hrg := HRG.out c.ins[k] (List.getElem_mem hkl)
          have HTk := hid (cp_take c.ins k hkl)
          have hdr : c.ins.drop k = c.ins[k] :: c.ins.drop (k + 1) := List.drop_eq_getElem_cons hkl
          rw [hdr] at HE
          generalize c.ins[k] = x at *
          obtain ⟨o, a, z⟩ := x
          dsimp only at *
          have hub : w4.heap.size < wi.heap.size := blk_lt HB.out
          have hibw : ib < wi.heap.size := by have := D3.out.size; omega
          clear hx hdr II E4 HRG
          by_cases ho : o = 13 ∨ o = 14 ∨ o = 15 ∨ o = 27
          · skip
            rcases ho with rfl | rfl | rfl | rfl
            all_goals
              have hsb := HE.out
              rw [sitG] at hsb
              rw [if_pos (by rfl)] at hsb
              have hzz : z = σ := by
                rcases Decidable.em (z = σ) with h | h
                · exact h
                · rw [if_neg h] at hsb; cases hsb
              subst hzz
              rw [if_pos rfl] at hsb
              have hsl := sit_len _ _ _ hsb
              obtain ⟨ha0, ha1⟩ := hrg rfl
              obtain ⟨an, rfl⟩ : ∃ n : Nat, a = n := ⟨a.toNat, by omega⟩
              have hal : an < L.length := by omega
              have hau : an < U.length := by omega
              have cU := br_cell HB.out (List.getElem?_eq_getElem hau)
              have fU := blk_free HB.out an
              have wr1 : IntKind.i64.wrap (z + 1) = z + 1 := by rw [IntKind.wrap_i64]; omega
              have g1 : decide ((an : Int) < 0) = false := decide_eq_false (by omega)
              have g2 : decide ((L.length : Int) ≤ (an : Int)) = false := decide_eq_false (by omega)
              have HS2 := hid hsb
              have HU2 := hid (show MarkL (U.set an true) (doneL cs f ++ c.ins.take (k + 1)) by
                rw [HTk.out, ← List.append_assoc]
                exact (HM.out.set an).snoc (fun _ => ⟨an, rfl, by rw [List.getElem?_set, if_pos rfl, if_pos hau]⟩))
              have HB2 := hid (br_set (j := an) HB.out)
              have KB := hid ((Keep.set (S := fun b => b = w4.heap.size) rfl wi an (.bool true)).below (Nat.le_of_lt hub) (fun k q => by subst q; exact Nat.le_refl _))
              clear hsb hsl HE HB HM
              generalize U[an] = uo at *
              go_wp2_with fail
              go_roundw
              case rel => exact ⟨k + 1, z + 1, U.set an true, by omega, by go_num, rfl, by omega, HS2, by simpa using hUl, HU2, hid (hI.out.trans (KB.out.trans ((Below.refl _ _).alloc (by have := KB.out.size; omega) _))), hid (blk_on HB2.out ((Below.refl _ _).alloc (Nat.le_refl _) _))⟩
              case measure => simp [intOf]; omega
          · by_cases ho2 : o = 5 ∨ o = 18
            · clear ho
              have ho := ho2
              clear ho2
              rcases ho with rfl | rfl
              all_goals
                have hsb := HE.out
                rw [sitG] at hsb
                rw [if_neg (by simp [siteB])] at hsb
                obtain ⟨ha0, ha1⟩ := hrg rfl
                obtain ⟨an, rfl⟩ : ∃ n : Nat, a = n := ⟨a.toNat, by omega⟩
                have hal : an < L.length := by omega
                have hau : an < U.length := by omega
                have cU := br_cell HB.out (List.getElem?_eq_getElem hau)
                have fU := blk_free HB.out an
                have g1 : decide ((an : Int) < 0) = false := decide_eq_false (by omega)
                have g2 : decide ((L.length : Int) ≤ (an : Int)) = false := decide_eq_false (by omega)
                have HS2 := hid hsb
                have HU2 := hid (show MarkL (U.set an true) (doneL cs f ++ c.ins.take (k + 1)) by
                  rw [HTk.out, ← List.append_assoc]
                  exact (HM.out.set an).snoc (fun _ => ⟨an, rfl, by rw [List.getElem?_set, if_pos rfl, if_pos hau]⟩))
                have HB2 := hid (br_set (j := an) HB.out)
                have KB := hid ((Keep.set (S := fun b => b = w4.heap.size) rfl wi an (.bool true)).below (Nat.le_of_lt hub) (fun k q => by subst q; exact Nat.le_refl _))
                clear hsb HE HB HM
                generalize U[an] = uo at *
                go_wp2_with fail
                go_roundw
                case rel => exact ⟨k + 1, σ, U.set an true, by omega, by go_num, rfl, by omega, HS2, by simpa using hUl, HU2, hid (hI.out.trans (KB.out.trans ((Below.refl _ _).alloc (by have := KB.out.size; omega) _))), hid (blk_on HB2.out ((Below.refl _ _).alloc (Nat.le_refl _) _))⟩
                case measure => simp [intOf]; omega
            · have d1 : (o == 13) = false := by simp; omega
              have d2 : (o == 14) = false := by simp; omega
              have d3 : (o == 15) = false := by simp; omega
              have d4 : (o == 27) = false := by simp; omega
              have d5 : (o == 5) = false := by simp; omega
              have d6 : (o == 18) = false := by simp; omega
              have HS2 := hid (show sitG (c.ins.drop (k + 1)) σ = some c.s by
                have hsb := HE.out
                rw [sitG, if_neg (by simp [siteB, d1, d2, d3, d4])] at hsb
                exact hsb)
              have HU2 := hid (show MarkL U (doneL cs f ++ c.ins.take (k + 1)) by
                rw [HTk.out, ← List.append_assoc]
                exact HM.out.snoc (fun h => by simp [useB, siteB, d1, d2, d3, d4, d5, d6] at h))
              clear HE HM ho ho2
              go_wp2_with fail
              go_roundw
              case rel => exact ⟨k + 1, σ, U, by omega, by go_num, rfl, by omega, HS2, hUl, HU2, hid (hI.out.trans ((Below.refl _ _).alloc (Nat.le_of_lt hub) _)), hid (blk_on HB.out ((Below.refl _ _).alloc (Nat.le_refl _) _))⟩
              case measure => simp [intOf]; omega
        · have e : c.ins.drop k = [] := List.drop_eq_nil_iff.2 (by omega)
          have hs := HE.out
          rw [e, sitG] at hs
          have hs2 : σ = c.s := Option.some.inj hs
          have e2 : c.ins.take k = c.ins := List.take_of_length_le (by omega)
          rw [e2, ← HD.out] at HM
          rw [hs2] at *
          clear e e2 hs hs2 HE HRG II E4
          go_wp2_with fail
          go_roundw
          case rel => exact ⟨f + 1, U, by omega, by go_num, hUl, HM, hI, HB⟩
          case measure => simp [intOf]; omega
    · have hfe : f = cs.length := by omega
      subst hfe
      have MK := hid (show ∀ k : Nat, k < L.length → U[k]? = some true from fun k hkL => by
        obtain ⟨c, hc, x, hx, hu, he⟩ := HN.out.2.2 k (by simp) hkL
        obtain ⟨a, ha, hU⟩ := HM.out x (by
          unfold doneL
          rw [List.take_length]
          exact List.mem_flatten.2 ⟨c.ins, List.mem_map.2 ⟨c, hc, rfl⟩, hx⟩) hu
        have : a = k := by omega
        rw [← this]; exact hU)
      have ND := hid (HN.out.1 (by simp))
      clear HM CI HR HS HN
      go_wp2_with fail
      clear q0 q1 q2
      go_loopw [11] (fun kV wr => ∃ k : Nat, k ≤ L.length ∧ kV = .int .i64 k ∧ Hid (Below w4.heap.size w4 wr) ∧ Hid (BoolR w4.heap.size U wr)) (fun kV _ => L.length - (intOf kV).toNat)
      case atStart => exact ⟨0, by omega, rfl, hL, HB⟩
      case round =>
        clear hL HB
        obtain ⟨k, hk, rfl, hL, HB⟩ := hrel
        rename World => wo2
        by_cases hkl : k < L.length
        · have d0 : decide ((k : Int) < (U.length : Int)) = true := decide_eq_true (by omega)
          have d0' : decide ((k : Int) < (L.length : Int)) = true := decide_eq_true (by omega)
          go_wp2_with fail
          clear d0 d0'
          go_loopw [12] (fun jV wr' => ∃ j : Nat, j ≤ k ∧ jV = .int .i64 j ∧ Hid (Below w4.heap.size w4 wr') ∧ Hid (BoolR w4.heap.size U wr')) (fun jV _ => k - (intOf jV).toNat)
          case atStart => exact ⟨0, by omega, rfl, hL, HB⟩
          case round =>
            clear hL HB
            obtain ⟨j, hj, rfl, hI, HB⟩ := hrel
            rename World => wi
            by_cases hjl : j < k
            · have hjL : j < L.length := by omega
              obtain ⟨pb, poff, rfl, hpb, cj, ck⟩ := pl_two (PI.out wi hI.out) (List.getElem?_eq_getElem hjL) (List.getElem?_eq_getElem hkl)
              obtain ⟨q0, q1, q2⟩ := PC.out wi hI.out
              have hne : L[j] ≠ L[k] := fun e => by
                have := (List.getElem_inj ND.out).1 e
                omega
              generalize L[j] = sj at *
              generalize L[k] = sk at *
              have hne2 : ¬ sj.data.toList = sk.data.toList := fun e => hne (by cases sj; cases sk; simp only at e; congr; exact Array.toList_inj.1 e)
              clear PI
              go_upto_region 32 with fail
              refine wp_region_held_drew (S := fun aZ => aZ.cell? ⟨w3.heap.size, 1, none⟩ = some (.slice (some ⟨pb, poff, none⟩) L.length pc) ∧ aZ.cell? ⟨pb, poff + j, none⟩ = some (.string sj) ∧ aZ.cell? ⟨pb, poff + k, none⟩ = some (.string sk)) (by kernel_rfl) ?_ (fun hHeld => ?_)
              · (refine ⟨?_, ?_, ?_⟩ <;> go_simp)
              clear q0 q1 q2 cj ck
              refine tkk 0 ?_
              refine tkk 1 ?_
              refine tkk 2 ?_
              refine tkk 3 ?_
              refine tkk 4 ?_
              refine tkk 5 ?_
              refine tkk 6 ?_
              refine tkk 7 ?_
              refine tkk 8 ?_
              refine tkk 9 ?_
              refine tk 10 (v := .bool false) ?_ ?_
              · (intro w hSw; go_simp <;> (first | with_reducible rfl | (rw [Lib.toList_data, Lib.toList_data]; exact hne2)))
              refine wpAnyH_done (by kernel_rfl) ?_ _
              go_wp2_with fail
              go_roundw
              case rel => exact ⟨j + 1, by omega, by go_num, hid hI.out.drew, hid (blk_on HB.out (Below.refl _ _).drew)⟩
              case measure => simp [intOf]; omega
            · have cU := br_cell HB.out (MK.out k hkl)
              clear PI
              go_wp2_with fail
              go_roundw
              case rel => exact ⟨k + 1, by omega, by go_num, hI, HB⟩
              case measure => simp [intOf]; omega
        · have L5 := hid (L4.out.trans (hL.out.mono L4.out.size))
          clear PI PC
          go_wp2_with fail
          refine (works15_calls _ (HOK.out _ (LOW.out _ L5.out))).mono ?_
          rintro e w7 ⟨rfl, b7⟩
          have L7 := hid (LOW.out _ (L5.out.trans (b7.mono L5.out.size)))
          clear b7
          go_wp2_with fail
          go_ret
          exact ⟨rfl, L7.out⟩

theorem walk (G0 : Int) (fv0 : Value) (fs0 : List Fq) (w : World) (w0 : Hid (FnsIn w.heap.size w fv0 fs0)) (h0 : 0 < w.heap.size) (SG : Hid (Texts 0 tsgnL w)) :
    Calls Tryd.prog 6 #[.agg #[.int .i64 G0, fv0]] w fun e w' => e = .returned (.bool true) ∧ Below w.heap.size w w' := by
  exact walk_sites G0 fv0 fs0 w w0 (hid ⟨Nat.le_refl _, h0, SG.out⟩)

set_option maxRecDepth 100000 in
theorem lifted (os : Os) (started : os.Started) (H : Type) (enc : TypeId × Value → H) :
    ReturnsInHanded {} Tryd.checked os 6 .any (fun w args => (Rows.compileSitesSpec.pre enc Tryd.prog Tryd.f6 [] false w args ∧ laidMetH Tryd.prog laidS w) ∧ sizedMet enc Tryd.prog Tryd.f6 (OpenSpec.ofChange Rows.compileSitesSpec) false w args)
      (Rows.compileSitesSpec.post enc Tryd.prog Tryd.f6 false true false false) := by
  refine returnsInHanded_of_change_and (C := Tryd.checked) (X := fun w _ => laidMetH Tryd.prog laidS w) (fun _ _ _ hh h => h.of_heap hh) own started (by kernel_rfl) Tryd.func6
    (ChangeSpec.witness_shaped (enc := enc) (C := Tryd.checked) (os := os) (X := fun w _ => laidMetH Tryd.prog laidS w) false (World.doorLaid Tryd.prog 14 os) #[.agg #[.int .i64 0, .slice none 0 0]] 8 rfl (World.shaped_of_RefB (by kernel_rfl) (by kernel_rfl)) (by kernel_rfl) (by kernel_rfl) (by kernel_rfl) (door_met os _)) ?_
  intro W base args ds gs before hval0 hW _ _ hL _
  obtain ⟨hz, hSG⟩ := of_laid hL
  have hval : ∀ (j : Nat) t v, Tryd.f6.params[j]? = some t → args[j]? = some v → Value.okWide Tryd.prog W .any base t v := hval0
  have hW' := hW
  obtain ⟨p, q, hA0, hV, rfl, hfz, hnd⟩ := hW
  have hA : DataW.TrodAll enc Tryd.prog W 0 (fun _ => true) true Tryd.f6.params.toList args.toList ds p := hA0
  rw [Tryd.params6] at hA hval
  obtain ⟨v0, vs0, d0, ds0, p0, q0, hargs, rfl, rfl, h0, r0⟩ := trodAll_cons hA
  obtain ⟨rfl, rfl, rfl⟩ := trodAll_nil r0
  obtain rfl : args = #[v0] := by cases args; simp_all
  obtain ⟨rfl, rfl⟩ := trodVars_none hV
  have hk0 := h0
  have hlt0 : ∀ x ∈ p0, x.block < W.heap.size := fun x hx => by simpa using hW'.lt x (by simp [hx])
  obtain ⟨G0, fv0, fs0, rfl, w0⟩ := open_unit (hval 0 24 v0 rfl rfl) h0
  clear hA0 hval0
  refine (walk G0 fv0 fs0 W w0 hz hSG).mono fun e W' ⟨he, hg⟩ => ?_
  subst he
  exact ⟨_, rfl, _, _, _, [], _, [], hW', trodAll_mk1 (shut_bool Tryd.underlying4 _), (trodAll_cons_mk (Below.trod laidOutP (by kernel_rfl) (of_decide_eq_true (by kernel_rfl)) hk0 hg hlt0) trodAll_mk0), rfl, hg.frame _, fun h => by cases h⟩

theorem over : Rows.compileSitesRow.holds Tryd.pinned (OpenSpec.ofChange Rows.compileSitesSpec) :=
  OpenClaim.holds_of_wide 6 Tryd.f6 rfl rfl rfl rfl rfl rfl rfl ⟨rfl, rfl, rfl, rfl, rfl⟩ rfl rfl rfl rfl rfl (by kernel_rfl) Tryd.func6 (by kernel_rfl)
    (of_decide_eq_true (by kernel_rfl)) (by unfold Func.isWrapper; first | (rw [if_pos (by decide +kernel)]; kernel_rfl) | (rw [if_neg (by decide +kernel)]; exact ⟨rfl, rfl⟩))
    (fun os started H enc _ => lifted os started H enc)

end Go.Proofs.YtgdbaceehpcgbaaDoor.compileSites
namespace Go.Proofs.YtgdbaceehpcgbaaDoor

/-- the statement, as it was given: the tied card -/
theorem compileSites_holds : Rows.CompileSitesCardSaid :=
  Claim7.holds_tied_plain_at .later [] [.data] true (true, "9c31a867761a43e28d5f78fbfb89532fad3cc1587c39cf2682819e1fb18bc378") false
    compileSites.over (fun _ h => by cases h) (by kernel_rfl) (fun _ h => by cases h) compileSites_row_tie rfl ⟨rfl, rfl⟩ (by kernel_rfl) rfl
    (fun f fn hf hfn => by
      obtain rfl : f = 6 := Option.some.inj ((show Tryd.prog.funcNamed "proteus/proteuslaw15.CompileSites" = some 6 by kernel_rfl).symm.trans hf) |>.symm
      obtain rfl : fn = Tryd.f6 := (Option.some.inj (Tryd.func6.symm.trans hfn)).symm
      exact ⟨by kernel_rfl, fun j t ht => by
        rw [Tryd.params6] at ht
        have hm : t ∈ [24] := by simpa using Array.mem_of_getElem? ht
        have hall : ([24].all fun u => !Tryd.prog.wantsStandIn u) = true := by kernel_rfl
        exact (show Tryd.prog.wantsStandIn t = false by simpa using List.all_eq_true.1 hall t hm)⟩)
    (by kernel_rfl)
#print axioms compileSites_holds
end Go.Proofs.YtgdbaceehpcgbaaDoor
