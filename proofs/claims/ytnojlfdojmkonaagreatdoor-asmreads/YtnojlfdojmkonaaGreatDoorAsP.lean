/- The program's Print: a program's lines, one behind the other. -/
import Derived.Test.YtnojlfdojmkonaaGreatDoorJoint2
import Derived.Test.YtnojlfdojmkonaaGreatDoorAsW
import Derived.Test.YtnojlfdojmkonaaGreatDoorAsN
import Derived.Test.YtnojlfdojmkonaaGreatDoorJoint10
import Derived.Test.YtnojlfdojmkonaaGreatDoorJoint9
namespace Go.Proofs.YtnojlfdojmkonaaGreatDoor
set_option linter.unusedSimpArgs false
set_option maxRecDepth 100000
open Go.RowKit

theorem tx_app (a b : List (List UInt8)) : txL (a ++ b) = txL a ++ txL b := by simp [txL]
theorem tx_one (l : List UInt8) : txL [l] = l ++ [10] := by simp [txL]
def polL (s : ByteArray) : List UInt8 := polW ++ quoted s.data.toList
def preP (P : Pg) (k : Nat) : List UInt8 := (lnP gloW [P.g] ++ [10]) ++ txL ((P.pool.take k).map polL)
def preC (P : Pg) (j : Nat) : List UInt8 := preP P P.pool.length ++ txL ((P.codes.take j).flatMap cdL)
def preI (P : Pg) (j : Nat) (c : Cd) (i : Nat) : List UInt8 := preC P j ++ ((lnP codW [c.p, c.l, c.s, c.d] ++ [10]) ++ txL ((c.ins.take i).map insP))
theorem pgL_is (P : Pg) : txL (pgLP P) = preC P P.codes.length := by
  unfold preC preP pgLP pgL
  rw [List.take_length, List.take_length]
  show txL ([lnP gloW [P.g]] ++ (P.pool.map polL ++ P.codes.flatMap cdL)) = _
  rw [tx_app, tx_one, tx_app]
  simp only [List.append_assoc]
theorem preP_step {P : Pg} {k : Nat} {s : ByteArray} (h : P.pool[k]? = some s) : preP P (k + 1) = preP P k ++ (polL s ++ [10]) := by
  obtain ⟨hk, rfl⟩ := List.getElem?_eq_some_iff.1 h
  unfold preP
  rw [List.take_succ_eq_append_getElem hk, List.map_append, tx_app, List.map_singleton, tx_one]
  simp only [List.append_assoc]
theorem preC_step {P : Pg} {j : Nat} {c : Cd} (h : P.codes[j]? = some c) : preC P (j + 1) = preI P j c c.ins.length := by
  obtain ⟨hk, rfl⟩ := List.getElem?_eq_some_iff.1 h
  unfold preI preC
  rw [List.take_succ_eq_append_getElem hk, List.flatMap_append, tx_app, List.flatMap_singleton, List.take_length]
  show _ ++ (_ ++ txL ([lnP codW _] ++ _)) = _
  rw [tx_app, tx_one]
  simp only [List.append_assoc]
theorem preI_step {P : Pg} {j i : Nat} {c : Cd} {x : In} (h : c.ins[i]? = some x) : preI P j c (i + 1) = preI P j c i ++ (insP x ++ [10]) := by
  obtain ⟨hk, rfl⟩ := List.getElem?_eq_some_iff.1 h
  unfold preI
  rw [List.take_succ_eq_append_getElem hk, List.map_append, tx_app, List.map_singleton, tx_one]
  simp only [List.append_assoc]
theorem preI_zero (P : Pg) (j : Nat) (c : Cd) : preI P j c 0 = preC P j ++ (lnP codW [c.p, c.l, c.s, c.d] ++ [10]) := by simp [preI, txL]
theorem preP_le (P : Pg) (k : Nat) : (preP P k).length ≤ (txL (pgLP P)).length := by
  rw [pgL_is]
  unfold preC
  have : preP P P.pool.length = preP P k ++ txL ((P.pool.drop k).map polL) := by
    unfold preP
    rw [List.append_assoc _ (txL _) (txL _), ← tx_app, ← List.map_append, List.take_append_drop, List.take_length]
  rw [this]
  simp only [List.length_append]
  omega
theorem preC_le (P : Pg) (j : Nat) : (preC P j).length ≤ (txL (pgLP P)).length := by
  rw [pgL_is]
  have : preC P P.codes.length = preC P j ++ txL ((P.codes.drop j).flatMap cdL) := by
    unfold preC
    rw [List.append_assoc, ← tx_app, ← List.flatMap_append, List.take_append_drop, List.take_length]
  rw [this]
  simp only [List.length_append]
  omega
theorem preI_le {P : Pg} {j : Nat} {c : Cd} (h : P.codes[j]? = some c) (i : Nat) : (preI P j c i).length ≤ (txL (pgLP P)).length := by
  refine Nat.le_trans ?_ (preC_le P (j + 1))
  rw [preC_step h]
  have : preI P j c c.ins.length = preI P j c i ++ txL ((c.ins.drop i).map insP) := by
    unfold preI
    rw [List.append_assoc (preC P j), List.append_assoc _ (txL _) (txL _), ← tx_app, ← List.map_append, List.take_append_drop, List.take_length]
  rw [this]
  simp only [List.length_append]
  omega
theorem pol_line (s : ByteArray) : lnB ⟨#[112, 111, 111, 108]⟩ [⟨(quoted s.data.toList).toArray⟩] = polL s := by
  simp [lnB, polL, polW]
theorem near_keepB {B b g : Nat} {l : List UInt8} {T : TypeId} {cs : Array Value} {a c : World} (h : Blk g T cs a) (hA : Aw B b l a) (q : Near B b a c) (h1 : T ≠ 52) (h2 : T ≠ 5) : Blk g T cs c := by
  have hne : g ≠ b := fun e => by
    obtain ⟨⟨p, u, h1'⟩, _⟩ := hA
    have h2' : a.heap[b]? = _ := h1'.blk
    have h3 : a.heap[g]? = _ := h
    rw [e, h2'] at h3
    injection h3 with h3; injection h3 with _ h3
    exact h1 h3.symm
  exact (q.rest g (blk_lt h) hne fun cur' fz e' => by
    have h3 : a.heap[g]? = _ := h
    rw [h3] at e'
    injection e' with e'; injection e' with _ e'
    exact h2 e').trans h
theorem aw_drew {B b : Nat} {l : List UInt8} {w : World} (h : Aw B b l w) : Aw B b l w.drew := ⟨h.1.drew, h.2⟩
theorem near_dr {B b : Nat} {a c : World} (h : Near B b a c) : Near B b a c.drew := ⟨h.below.drew, h.rest⟩
/-- numbers out of a row that was made for them -/
theorem num_here {B b : Nat} {l : List UInt8} {W : World} (g : Nat) (hg : g = W.heap.size) (first : ByteArray) (ns : List Int) (cs : Array Value) (hcs : cs = (ns.map (Value.int .i64)).toArray) (n : Nat) (hn : ns.length = n) (h : Hid (Aw B b l W)) (hf : first.data.toList ≠ []) (hr : ∀ n ∈ ns, -9223372036854775808 ≤ n ∧ n ≤ 9223372036854775807) (hk4 : ns.length ≤ 1000)
    (hl : l.length + (lnP first.data.toList ns).length ≤ 900000000) :
    Calls Tryz.prog 30 #[.pointer (some ⟨b, 0, none⟩), .string first, .slice (some ⟨g, 0, none⟩) n n] (W.alloc (.cells cs 3)) fun e w' => e = .returned (.tuple #[]) ∧ Aw B b (l ++ (lnP first.data.toList ns ++ [10])) w' ∧ Near B b W w' := by
  subst hcs hn hg
  have q : Below W.heap.size W (W.alloc (.cells (ns.map (Value.int .i64)).toArray 3)) := box_below W _
  exact (anums_calls first ns _ _ (hid (aw_below h.out q)) (hid (nsIn_blk rfl (blk_new W _ _))) hf hr hk4 hl).mono fun e w' ⟨h1, h2, h3⟩ => ⟨h1, h2, (Near.ofBelow q h.out.2).trans h3⟩
theorem slice_two (g k : Nat) (hk : k ≤ 2) (w : World) : (Instr.sliceAt 75 (.pointer (some ⟨g, 0, none⟩)) none (some (.int .i64 (k : Int))) none).run Tryz.prog w = .ok (.slice (some ⟨g, 0, none⟩) k 2) w := by
  have hl : Tryz.prog.arrayLen 75 = 2 := by kernel_rfl
  have hu : Tryz.prog.underlying 75 = some (.array (Tryz.prog.arrayLen 75) (Tryz.prog.elem 75)) := by kernel_rfl
  have hz : (sizeOf (Tryz.prog.elem 75)).run Tryz.prog w = .ok 1 w := by kernel_rfl
  rw [run_sliceAt_array_h w _ _ hu .i64 (k : Int) (by omega) (by rw [hl]; omega), hz]
  simp only [Result.andThen, slicedAt]
  simp [Addr.add, hl]
theorem two_ns {g k : Nat} {W : World} {a z : Int} (h : Blk g 75 #[.int .i64 a, .int .i64 z] W) (hk : k ≤ 2) : NsIn W.heap.size W (.slice (some ⟨g, 0, none⟩) k 2) ([a, z].take k) := by
  refine .inr ⟨g, 0, 2, by simp; omega, blk_lt h, fun i x hx => ?_⟩
  rw [Nat.zero_add, blk_cell h]
  rw [List.getElem?_take] at hx
  split at hx
  · match i, hx with
    | 0, hx => simp at hx; subst hx; rfl
    | 1, hx => simp at hx; subst hx; rfl
    | i + 2, hx => simp at hx
  · cases hx
theorem ins_few (x : In) : ([x.2.1, x.2.2].take (prtN x.1)).length = prtN x.1 := by rcases prt_cases x.1 with h | h | h <;> rw [h] <;> rfl
theorem ins_rng {x : In} (h : okX x) : ∀ n ∈ [x.2.1, x.2.2].take (prtN x.1), -9223372036854775808 ≤ n ∧ n ≤ 9223372036854775807 := by
  have key : ∀ n, rngP n → -9223372036854775808 ≤ n ∧ n ≤ 9223372036854775807 := fun n hn => by unfold rngP at hn; omega
  rcases prt_cases x.1 with hp | hp | hp
  · rw [hp]; intro n hn; cases hn
  · rw [hp]; intro n hn
    simp at hn
    rw [hn]; exact key _ (h.2.2.1 hp).2
  · rw [hp]; intro n hn
    simp at hn
    rcases hn with rfl | rfl
    · exact key _ (h.2.2.2 hp).1
    · exact key _ (h.2.2.2 hp).2
theorem opW_ne {o : Int} (h : 1 ≤ o ∧ o ≤ 32) : opW o ≠ [] := by
  unfold opW
  rw [if_pos h]
  exact (opW_all ⟨(o - 1).toNat, by omega⟩).2
/-- what of a code's numbers may be written -/
theorem cd_rng {c : Cd} (h : okCd c) : ∀ n ∈ [c.p, c.l, c.s, c.d], -9223372036854775808 ≤ n ∧ n ≤ 9223372036854775807 := by
  intro n hn
  have key : ∀ n, rngP n → -9223372036854775808 ≤ n ∧ n ≤ 9223372036854775807 := fun n hn => by unfold rngP at hn; omega
  simp at hn
  rcases hn with rfl | rfl | rfl | rfl
  · exact key _ h.1
  · exact key _ h.2.1
  · exact key _ h.2.2.1
  · exact key _ h.2.2.2.1
set_option maxHeartbeats 6400000 in
theorem aprogram_calls (b : Nat) (P : Pg) (pv cv : Value) (w : World) (h : Hid (Aw b b [] w)) (hP : Hid (PgIn b w P pv cv)) (hok : Hid (okPg P)) (hs : Hid (∀ s ∈ P.pool, s.size ≤ 1000000)) (hl : (txL (pgLP P)).length ≤ 800000000) :
    Calls Tryz.prog 18 #[.pointer (some ⟨b, 0, none⟩), pgV P pv cv] w fun e w' => e = .returned (.tuple #[]) ∧ Aw b b (txL (pgLP P)) w' ∧ Near b b w w' := by
  have PS := hid (fun k s (h : P.pool[k]? = some s) => preP_step (P := P) h)
  have PL := hid (preP_le P)
  have CS := hid (fun j c (h : P.codes[j]? = some c) => preC_step (P := P) h)
  have CL := hid (preC_le P)
  have IS := hid (fun j (c : Cd) i x (h : c.ins[i]? = some x) => preI_step (P := P) (j := j) h)
  have IL := hid (fun j c (h : P.codes[j]? = some c) => preI_le (P := P) h)
  have IZ := hid (preI_zero P)
  have PZ := hid (show preP P 0 = [] ++ (lnP gloW [P.g] ++ [10]) by simp [preP, txL])
  have PE := hid (pgL_is P)
  have CZ := hid (show preC P 0 = preP P P.pool.length by simp [preC, txL])
  have G := hid hok.out.1
  have C := hid hok.out.2
  have hfew := hP.out.few
  have hins := hid hP.out.ins
  have POOL := hid (fun W (q : Below b w W) => plIn_on hP.out.pool q)
  have CODES := hid (fun W (q : Below b w W) => cdsIn_on hP.out.codes q)
  obtain ⟨pa, pc, hpv⟩ := plIn_shape hP.out.pool
  obtain ⟨ca, cc, hcv⟩ := cdsIn_shape hP.out.codes
  clear hP hok
  generalize hT : txL (pgLP P) = T at *
  generalize hpP : preP P = PP at *
  generalize hpC : preC P = PC at *
  generalize hpI : preI P = PI at *
  clear hT hpP hpC hpI
  obtain ⟨g, ss, cs⟩ := P
  simp only [pgV] at *
  subst hpv hcv
  have hb := aw_lt h.out
  have AL := hid (box_below w (.cells #[.int .i64 g, .slice pa ss.length pc, .slice ca cs.length cc] 25))
  have BL := hid (blk_new w 25 #[.int .i64 g, .slice pa ss.length pc, .slice ca cs.length cc])
  have hszb : w.heap.size < (w.alloc (.cells #[.int .i64 g, .slice pa ss.length pc, .slice ca cs.length cc] 25)).heap.size := by simp
  generalize hW1 : w.alloc (.cells #[.int .i64 g, .slice pa ss.length pc, .slice ca cs.length cc] 25) = w1 at *
  have A1 := hid (aw_below h.out AL.out)
  have N1 := hid (Near.ofBelow (b := b) AL.out h.out.2)
  have CELLS := hid (fun (W : World) (q : Near b b w1 W) => (show W.cell? ⟨w.heap.size, 0, none⟩ = some (.int .i64 g) ∧ W.cell? ⟨w.heap.size, 1, none⟩ = some (.slice pa ss.length pc) ∧ W.cell? ⟨w.heap.size, 2, none⟩ = some (.slice ca cs.length cc) from
    have hh := near_keepB BL.out A1.out q (by decide) (by decide)
    ⟨blk_cellZ hh 0 rfl, blk_cellZ hh 1 rfl, blk_cellZ hh 2 rfl⟩))
  obtain ⟨p0, p1, p2⟩ := CELLS.out w1 (Near.refl _ _ _)
  have hpl0 := PL.out 0
  rw [PZ.out] at hpl0
  simp only [List.nil_append, List.length_append, List.length_singleton] at hpl0
  go_enter Tryz.func18, Tryz.ntmps18
  go_wp2_with fail
  refine (num_here _ rfl ⟨#[103, 108, 111, 98, 97, 108, 115]⟩ [g] _ rfl 1 rfl A1 (by simp) (by intro n hn; rw [List.mem_singleton.1 hn]; have := G.out; unfold rngP at this; omega) (by simp) (show ([] : List UInt8).length + (lnP gloW [g]).length ≤ 900000000 by rw [List.length_nil]; omega)).mono ?_
  rintro e w2 ⟨rfl, a2, n2⟩
  have A2 := hid (show Aw b b (PP 0) w2 by rw [PZ.out]; exact a2)
  have N2 := hid n2
  clear a2 n2 p0 p1 p2 hpl0
  obtain ⟨p0, p1, p2⟩ := CELLS.out w2 N2.out
  go_wp2_with fail
  clear p0 p1 p2
  go_loopw [19] (fun iv wr => ∃ k : Nat, k ≤ ss.length ∧ iv = .int .i64 k ∧ Hid (Aw b b (PP k) wr ∧ Near b b w1 wr)) (fun iv _ => ss.length - (intOf iv).toNat)
  case atStart => exact ⟨0, Nat.zero_le _, rfl, hid ⟨A2.out, N2.out⟩⟩
  case round =>
    clear A2 N2
    obtain ⟨k, hk, rfl, hR⟩ := hrel
    rename World => wr
    by_cases hkl : k < ss.length
    · have hx : ss[k]? = some ss[k] := List.getElem?_eq_getElem hkl
      obtain ⟨sb, off, rfl, hsb, c0⟩ := plIn_at (POOL.out wr (N1.out.trans hR.out.2).below) hx
      have HS := hid (PS.out k _ hx)
      have hle := PL.out (k + 1)
      rw [HS.out] at hle
      simp only [List.length_append, List.length_singleton] at hle
      have hsz := hs.out ss[k] (List.getElem_mem hkl)
      have HPL := hid (pol_line ss[k])
      have HK1 := hid (show k + 1 ≤ ss.length by omega)
      clear hx
      generalize ss[k] = s at *
      have AR := hid hR.out.1
      have NR := hid hR.out.2
      clear hR
      generalize PP k = l0 at *
      go_wp2_with fail
      refine (quote_calls s hsz _).mono ?_
      rintro e w3 ⟨rfl, b3⟩
      have A3 := hid (aw_below (aw_below AR.out b3) (box_below w3 (.cells #[.string ⟨(quoted s.data.toList).toArray⟩] 9)))
      have N3 := hid ((NR.out.trans (Near.ofBelow b3 AR.out.2)).trans (Near.ofBelow (box_below w3 (.cells #[.string ⟨(quoted s.data.toList).toArray⟩] 9)) (Nat.le_trans AR.out.2 b3.size)))
      have S3 := hid (strR_one w3 ⟨(quoted s.data.toList).toArray⟩)
      clear b3 c0
      go_wp2_with fail
      refine (aline_calls ⟨#[112, 111, 111, 108]⟩ [⟨(quoted s.data.toList).toArray⟩] _ _ A3 S3 (by simp) (by simp) (by rw [HPL.out]; omega)).mono ?_
      rintro e w4 ⟨rfl, a4, n4⟩
      rw [HPL.out, ← HS.out] at a4
      have A4 := hid a4
      have N4 := hid (N3.out.trans n4)
      clear a4 n4 A3 N3 S3 hle
      go_wp2_with fail
      go_roundw
      case rel => exact ⟨k + 1, HK1.out, by go_num, hid ⟨A4.out, N4.out⟩⟩
      case measure => have := HK1.out; simp [intOf]; omega
    · have hke : k = ss.length := by omega
      have A5 := hid (show Aw b b (PC 0) wr by rw [CZ.out, ← hke]; exact hR.out.1)
      have N5 := hid hR.out.2
      obtain ⟨p0, p1, p2⟩ := CELLS.out wr N5.out
      clear hke hk hR PS PL PZ CZ POOL
      go_wp2_with fail
      clear p0 p1 p2
      go_loopw [32] (fun iv wr => ∃ j : Nat, j ≤ cs.length ∧ iv = .int .i64 j ∧ Hid (Aw b b (PC j) wr ∧ Near b b w1 wr)) (fun iv _ => cs.length - (intOf iv).toNat)
      case atStart => exact ⟨0, Nat.zero_le _, rfl, hid ⟨A5.out, N5.out⟩⟩
      case round =>
        clear A5 N5
        obtain ⟨j, hj, rfl, hR⟩ := hrel
        rename World => wo
        by_cases hjl : j < cs.length
        · have hx : cs[j]? = some cs[j] := List.getElem?_eq_getElem hjl
          obtain ⟨cb, off, rfl, hcb, iv, c0, c1, c2, c3, c4, hI⟩ := cdsIn_at (CODES.out wo (N1.out.trans hR.out.2).below) hx
          have HS := hid (CS.out j _ hx)
          have HI := hid (fun i x => IS.out j cs[j] i x)
          have HL := hid (IL.out j _ hx)
          have HZ := hid (IZ.out j cs[j])
          have HC := hid (C.out cs[j] (List.getElem_mem hjl))
          have HN := hins.out cs[j] (List.getElem_mem hjl)
          have HK1 := hid (show j + 1 ≤ cs.length by omega)
          clear hx
          generalize cs[j] = c at *
          have AR := hid hR.out.1
          have NR := hid hR.out.2
          clear hR
          obtain ⟨ia, ic, rfl⟩ := insIn_shape hI
          have hwo : (wo.alloc (.cells #[.int .i64 c.p, .int .i64 c.l, .int .i64 c.s, .int .i64 c.d, .slice ia c.ins.length ic] 45)).heap.size = wo.heap.size + 1 := by simp
          have AB := hid (box_below wo (.cells #[.int .i64 c.p, .int .i64 c.l, .int .i64 c.s, .int .i64 c.d, .slice ia c.ins.length ic] 45))
          have BB := hid (blk_new wo 45 #[.int .i64 c.p, .int .i64 c.l, .int .i64 c.s, .int .i64 c.d, .slice ia c.ins.length ic])
          have hbw := AR.out.2
          have INS := hid (fun W (q : Below b wo W) => insIn_on hI q)
          clear hI
          go_wp2_with fail
          generalize hW3 : wo.alloc (.cells #[.int .i64 c.p, .int .i64 c.l, .int .i64 c.s, .int .i64 c.d, .slice ia c.ins.length ic] 45) = w3 at *
          have A3 := hid (aw_below AR.out AB.out)
          have N3 := hid (Near.ofBelow (b := b) AB.out AR.out.2)
          have CE := hid (fun (W : World) (q : Near b b w3 W) => (show W.cell? ⟨wo.heap.size, 0, none⟩ = some (.int .i64 c.p) ∧ W.cell? ⟨wo.heap.size, 1, none⟩ = some (.int .i64 c.l) ∧ W.cell? ⟨wo.heap.size, 2, none⟩ = some (.int .i64 c.s) ∧ W.cell? ⟨wo.heap.size, 3, none⟩ = some (.int .i64 c.d) ∧ W.cell? ⟨wo.heap.size, 4, none⟩ = some (.slice ia c.ins.length ic) from
            have hh := near_keepB BB.out A3.out q (by decide) (by decide)
            ⟨blk_cellZ hh 0 rfl, blk_cellZ hh 1 rfl, blk_cellZ hh 2 rfl, blk_cellZ hh 3 rfl, blk_cellZ hh 4 rfl⟩))
          clear c0 c1 c2 c3 c4 hW3
          have HWO := hid hwo
          clear hwo
          have hle := HL.out 0
          rw [HZ.out] at hle
          simp only [List.length_append, List.length_singleton] at hle
          refine (num_here _ HWO.out.symm ⟨#[99, 111, 100, 101]⟩ [c.p, c.l, c.s, c.d] _ rfl 4 rfl A3 (by simp) (cd_rng HC.out) (by simp) (show (PC j).length + (lnP codW [c.p, c.l, c.s, c.d]).length ≤ 900000000 by omega)).mono ?_
          rintro e w4 ⟨rfl, a4, n4⟩
          have A4 := hid (show Aw b b (PI j c 0) w4 by rw [HZ.out]; exact a4)
          have N4 := hid n4
          have N43 := hid (NR.out.trans N3.out)
          clear a4 n4 hle
          obtain ⟨c0, c1, c2, c3, c4⟩ := CE.out w4 N4.out
          go_wp2_with fail
          clear c0 c1 c2 c3 c4
          go_loopw [50] (fun iv wr' => ∃ i : Nat, i ≤ c.ins.length ∧ iv = .int .i64 i ∧ Hid (Aw b b (PI j c i) wr' ∧ Near b b w3 wr')) (fun iv _ => c.ins.length - (intOf iv).toNat)
          case atStart => exact ⟨0, Nat.zero_le _, rfl, hid ⟨A4.out, N4.out⟩⟩
          case round =>
            clear A4 N4
            obtain ⟨i, hi, rfl, hR⟩ := hrel
            rename World => wi
            by_cases hil : i < c.ins.length
            · have hx : c.ins[i]? = some c.ins[i] := List.getElem?_eq_getElem hil
              obtain ⟨ib, ioff, rfl, hib, x0, x1, x2⟩ := insIn_at (INS.out wi (N3.out.trans hR.out.2).below) hx
              have HS' := hid (HI.out i _ hx)
              have hle := HL.out (i + 1)
              rw [HS'.out] at hle
              simp only [List.length_append, List.length_singleton] at hle
              have HX := hid (HC.out.2.2.2.2 c.ins[i] (List.getElem_mem hil))
              have HK2 := hid (show i + 1 ≤ c.ins.length by omega)
              clear hx
              generalize c.ins[i] = x at *
              have AI := hid hR.out.1
              have NI := hid hR.out.2
              clear hR
              generalize PI j c i = l0 at *
              obtain ⟨o, a, z⟩ := x
              dsimp only at x0 x1 x2
              have hszi : (wi.alloc (.cells #[.int .i64 o, .int .i64 a, .int .i64 z] 67)).heap.size = wi.heap.size + 1 := by simp
              have q1 := box_below wi (.cells #[.int .i64 o, .int .i64 a, .int .i64 z] 67)
              have B1 := hid (blk_new wi 67 #[.int .i64 o, .int .i64 a, .int .i64 z])
              have hiw := AI.out.2
              go_wp2_with fail
              generalize hW4 : wi.alloc (.cells #[.int .i64 o, .int .i64 a, .int .i64 z] 67) = w5 at *
              clear hW4
              have q2 := box_below w5 (.cells #[.int .i64 a, .int .i64 z] 75)
              have B2 := hid (blk_new w5 75 #[.int .i64 a, .int .i64 z])
              have hszj : (w5.alloc (.cells #[.int .i64 a, .int .i64 z] 75)).heap.size = wi.heap.size + 2 := by simp [hszi]
              generalize hW5 : w5.alloc (.cells #[.int .i64 a, .int .i64 z] 75) = w6 at *
              have A6 := hid (aw_below (aw_below AI.out q1) q2)
              have N6 := hid ((NI.out.trans (Near.ofBelow (b := b) q1 AI.out.2)).trans (Near.ofBelow (b := b) q2 (Nat.le_trans AI.out.2 q1.size)))
              have BX := hid (blk_on B1.out q2)
              have CI := hid (fun W (q : Below w6.heap.size w6 W) => blk_cellZ (blk_on BX.out q) 0 rfl)
              have BY := hid (fun W (q : Below w6.heap.size w6 W) => blk_on B2.out q)
              have HZ5 := hid hszi
              have HZ6 := hid hszj
              have hsl := slice_two (wi.heap.size + 1) (prtN o) (by rcases prt_cases o with h | h | h <;> rw [h] <;> decide)
              have hcell : w6.cell? ⟨wi.heap.size, 0, none⟩ = some (.int .i64 o) := CI.out w6 (Below.refl _ _)
              clear hW5 hszi hszj q1 q2 x0 x1 x2 B1 B2
              refine wp_region_held_drew (S := fun aZ => aZ.cell? ⟨wi.heap.size, 0, none⟩ = some (.int .i64 o)) (by kernel_rfl) ?_ (fun hHeld => ?_)
              · go_simp
              refine tkk 0 ?_
              refine tkk 1 ?_
              refine tkk 2 ?_
              refine tkk 4 ?_
              refine tkk 5 ?_
              refine rdy 3 (fun K hK => ?_)
              go_simp
              refine (aname_calls o _).mono ?_
              rintro e w7 ⟨rfl, b7⟩
              have B7 := hid (show Below w6.heap.size w6 w7 by first | exact b7 | exact ((Below.refl w6.heap.size w6).drew).trans b7)
              have C7 := CI.out w7 B7.out
              clear b7
              go_simp
              refine hK.out _ _ ?_ (fun _ => ?_)
              · (first | assumption | go_simp)
              clear hK K
              refine rdy 6 (fun K hK => ?_)
              go_simp
              refine (aparts_calls o _).mono ?_
              rintro e w8 ⟨rfl, rfl⟩
              go_simp
              refine hK.out _ _ ?_ (fun _ => ?_)
              · (first | assumption | go_simp)
              clear hK K
              refine tkk 7 ?_
              refine rdy 8 (fun K hK => ?_)
              go_simp
              have A7 := hid (aw_below A6.out B7.out)
              have NS7 := hid (two_ns (BY.out w8 B7.out) (show prtN o ≤ 2 by rcases prt_cases o with h | h | h <;> rw [h] <;> decide))
              rw [HZ5.out] at NS7
              refine (anums_calls ⟨(opW o).toArray⟩ ([a, z].take (prtN o)) _ _ A7 NS7 (by simpa using opW_ne HX.out.1) (ins_rng HX.out) (by have := ins_few (o, a, z); simp only at this; rw [this]; rcases prt_cases o with h | h | h <;> rw [h] <;> decide) (by simp only [List.toList_toArray]; show l0.length + (insP (o, a, z)).length ≤ _; omega)).mono ?_
              rintro e w9 ⟨rfl, a9, n9⟩
              have A9 := hid (show Aw b b (PI j c (i + 1)) w9 by rw [HS'.out]; exact a9)
              have C9 := blk_cellZ (near_keepB (blk_on BX.out B7.out) A7.out n9 (by decide) (by decide)) 0 rfl
              have N9 := hid ((N6.out.trans (Near.ofBelow (b := b) B7.out A6.out.2)).trans n9)
              clear a9 n9 C7
              go_simp
              refine hK.out _ _ ?_ (fun _ => ?_)
              · (first | assumption | go_simp)
              clear hK K
              refine wpAnyH_done (by kernel_rfl) ?_ _
              clear hcell hsl C9
              go_wp2_with fail
              go_roundw
              case rel => exact ⟨i + 1, HK2.out, by go_num, hid ⟨by first | exact A9.out | exact aw_drew A9.out, by first | exact N9.out | exact near_dr N9.out⟩⟩
              case measure => have := HK2.out; simp [intOf]; omega
            · have hie : i = c.ins.length := by omega
              have A6 := hid (show Aw b b (PC (j + 1)) wi by rw [HS.out, ← hie]; exact hR.out.1)
              have N6 := hid (N43.out.trans hR.out.2)
              clear hie hi hR
              go_wp2_with fail
              go_roundw
              case rel => exact ⟨j + 1, HK1.out, by go_num, hid ⟨A6.out, N6.out⟩⟩
              case measure => have := HK1.out; simp [intOf]; omega
        · have hje : j = cs.length := by omega
          have A6 := hid (show Aw b b T wo by rw [PE.out, ← hje]; exact hR.out.1)
          have N6 := hid (N1.out.trans hR.out.2)
          clear hje hj hR
          go_wp2_with fail
          go_end0
          exact ⟨rfl, A6.out, N6.out⟩

end Go.Proofs.YtnojlfdojmkonaaGreatDoor
