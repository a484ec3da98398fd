/- The document's writing of instructions. The document's text of a program. The document's Text and Print. What the document's Print answers. -/
import Derived.Test.YtnojlfdojmkonaaGreatDoorAsPr
import Derived.Test.YtnojlfdojmkonaaGreatDoorRefDig
import Derived.Test.YtnojlfdojmkonaaGreatDoorRefTxt
import Derived.Test.YtnojlfdojmkonaaGreatDoorCdRCk
import Derived.Test.YtnojlfdojmkonaaGreatDoorTk
namespace Go.Proofs.YtnojlfdojmkonaaGreatDoor
set_option linter.unusedSimpArgs false
set_option maxRecDepth 100000
open Go.RowKit

def refA : Array Value := (asmW.map fun w => Value.string ⟨w.toArray⟩).toArray
theorem ref_val {o : Int} (h : 1 ≤ o ∧ o ≤ 32) : refA[(o - 1).toNat]? = some (.string ⟨(opW o).toArray⟩) := by
  have : ∀ i : Fin 32, refA[i.val]? = some (.string ⟨(asmW.getD i.val []).toArray⟩) := by
    intro i
    unfold refA
    rw [List.getElem?_toArray, List.getElem?_map, List.getElem?_eq_getElem (show i.val < asmW.length from i.isLt), List.getD_eq_getElem?_getD, List.getElem?_eq_getElem (show i.val < asmW.length from i.isLt)]
    rfl
  have := this ⟨(o - 1).toNat, by omega⟩
  rw [this]
  unfold opW
  rw [if_pos h]
set_option maxHeartbeats 3200000 in
theorem rname_calls (o : Int) (w : World) : Calls Tryz.prog 12 #[.int .i64 o] w fun e w' => e = .returned (.string ⟨(opW o).toArray⟩) ∧ Below w.heap.size w w' := by
  have AL := hid (fun o => box_below w o)
  go_enter Tryz.func12, Tryz.ntmps12
  go_upto_region 2 with fail
  generalize hW : World.alloc w _ = w1
  have BL := hid (show Blk w.heap.size 9 refA w1 by rw [← hW]; exact blk_new w _ _)
  have B1 := hid (show Below w.heap.size w w1 by rw [← hW]; exact AL.out _)
  clear hW
  by_cases h1 : o < 1
  · have e := hid (show opW o = [] by unfold opW; rw [if_neg (by omega)])
    have d1 : decide (o < 1) = true := decide_eq_true h1
    go_wp2_with fail
    go_ret
    exact ⟨by rw [e.out]; rfl, B1.out⟩
  · have d1 : decide (o < 1) = false := decide_eq_false h1
    by_cases h2 : 32 < o
    · have e := hid (show opW o = [] by unfold opW; rw [if_neg (by omega)])
      have d2 : decide (o > 32) = true := decide_eq_true h2
      go_wp2_with fail
      go_ret
      exact ⟨by rw [e.out]; rfl, B1.out⟩
    · have d2 : decide (o > 32) = false := decide_eq_false (by omega)
      obtain ⟨k, rfl⟩ : ∃ k : Nat, o = (k : Int) + 1 := ⟨(o - 1).toNat, by omega⟩
      have hv := ref_val (o := (k : Int) + 1) ⟨by omega, by omega⟩
      rw [show ((k : Int) + 1 - 1).toNat = k by omega] at hv
      have c0 : w1.cell? ⟨w.heap.size, k, none⟩ = some (.string ⟨(opW ((k : Int) + 1)).toArray⟩) := by rw [blk_cell BL.out]; exact hv
      have hk : (k : Int) < 32 := by omega
      have hwk : IntKind.i64.wrap (k : Int) = (k : Int) := by rw [IntKind.wrap_i64]; omega
      clear hv h1 h2
      go_wp2_with fail
      go_ret
      exact ⟨rfl, B1.out⟩

theorem cat_list (a b : ByteArray) : (a ++ b).data.toList = a.data.toList ++ b.data.toList := by simp
theorem lnP_take {w : List UInt8} {ns : List Int} {k : Nat} {n : Int} (h : ns[k]? = some n) : lnP w (ns.take (k + 1)) = lnP w (ns.take k) ++ 32 :: digs n := by
  obtain ⟨hk, rfl⟩ := List.getElem?_eq_some_iff.1 h
  unfold lnP
  rw [List.take_succ_eq_append_getElem hk, List.flatMap_append, List.append_assoc, List.flatMap_singleton]
set_option maxHeartbeats 3200000 in
theorem rline_calls (s : ByteArray) (ns : List Int) (v : Value) (w : World) (hN : Hid (NsIn w.heap.size w v ns)) (hr : Hid (∀ n ∈ ns, -9223372036854775808 ≤ n ∧ n ≤ 9223372036854775807)) (hk4 : ns.length ≤ 1000) (hs : s.size ≤ 1000000000) :
    Calls Tryz.prog 34 #[.string s, v] w fun e w' => (∃ t : ByteArray, e = .returned (.string t) ∧ t.data.toList = lnP s.data.toList ns ++ [10]) ∧ Below w.heap.size w w' := by
  obtain ⟨ao, cap, rfl⟩ := nsIn_shape hN.out
  have D := hid (fun k (n : Int) (h : ns[k]? = some n) => lnP_take (w := s.data.toList) h)
  have hz := Lib.size_eq s
  have HZ := hid hz
  have LEN := hid (fun k => (show (lnP s.data.toList (ns.take k)).length ≤ s.size + k * 22 from by
    have := lnP_len s.data.toList (ns.take k)
    rw [List.length_take] at this
    omega))
  clear hz
  go_enter Tryz.func34, Tryz.ntmps34
  go_wp2_with fail
  go_loopw [0, 5] (fun sv iv wr => ∃ (t : ByteArray) (k : Nat), k ≤ ns.length ∧ sv = .string t ∧ iv = .int .i64 k ∧ Hid (t.data.toList = lnP s.data.toList (ns.take k) ∧ Below w.heap.size w wr)) (fun _ iv _ => ns.length - (intOf iv).toNat)
  case atStart => exact ⟨s, 0, Nat.zero_le _, rfl, rfl, hid ⟨by simp [lnP], Below.refl _ _⟩⟩
  case round =>
    obtain ⟨t, k, hk, rfl, rfl, hR⟩ := hrel
    rename World => wr
    have hln := LEN.out k
    have htz := Lib.size_eq t
    rw [hR.out.1] at htz
    have h1 : ¬ (9223372036854775807 < t.size + 1) := by omega
    by_cases hkl : k < ns.length
    · have hx : ns[k]? = some ns[k] := List.getElem?_eq_getElem hkl
      have DK := hid (D.out k _ hx)
      have hrn := hr.out ns[k] (List.getElem_mem hkl)
      obtain ⟨nb, off, rfl, hnb, c0⟩ := nsIn_at (nsIn_on hN.out hR.out.2) hx
      have HK1 := hid (show k + 1 ≤ ns.length by omega)
      have TL := hid hR.out.1
      have LW := hid hR.out.2
      have HT := hid (show t.size ≤ 1100000000 by omega)
      clear hx hR hln htz
      generalize ns[k] = n at *
      go_wp2_with fail
      refine (refdigits_calls n hrn.1 hrn.2 _).mono ?_
      rintro e w2 ⟨rfl, b2⟩
      have B2 := hid (LW.out.trans (b2.mono LW.out.size))
      have hdl := digs_length n
      have h2 : ¬ (9223372036854775807 < t.size + 1 + (digs n).length) := by have := HT.out; omega
      clear b2 c0
      go_wp2_with fail
      exact ⟨⟨_, k + 1, HK1.out, rfl, by simp, hid ⟨by rw [cat_list, cat_list, TL.out, DK.out]; simp, B2.out⟩⟩, by have := HK1.out; simp [intOf]; omega⟩
    · have hke : k = ns.length := by omega
      have TL := hid (show t.data.toList = lnP s.data.toList ns by rw [hR.out.1, hke, List.take_length])
      have LW := hid hR.out.2
      clear hR hke hk htz hln
      go_wp2_with fail
      go_ret
      exact ⟨⟨_, rfl, by rw [cat_list, TL.out]⟩, LW.out⟩

end Go.Proofs.YtnojlfdojmkonaaGreatDoor

namespace Go.Proofs.YtnojlfdojmkonaaGreatDoor
set_option linter.unusedSimpArgs false
set_option maxRecDepth 100000
open Go.RowKit

def StrIs (l : List UInt8) (e : Ending) : Prop := ∃ t : ByteArray, e = .returned (.string t) ∧ t.data.toList = l
theorem slice_row (g k : Nat) (hk : k ≤ 2) (w : World) : (Instr.sliceAt 69 (.slice (some ⟨g, 0, none⟩) 2 2) none (some (.int .i64 (k : Int))) none).run Tryz.prog w = .ok (.slice (some ⟨g, 0, none⟩) k 2) w := by
  have hu : Tryz.prog.underlying 69 = some (.slice (Tryz.prog.elem 69)) := by kernel_rfl
  have hz : (sizeOf (Tryz.prog.elem 69)).run Tryz.prog w = .ok 1 w := by kernel_rfl
  rw [run_sliceAt_slice _ _ _ _ _ _ hu, run_slice_h _ _ _ _ _ hu .i64 (k : Int) (by omega) (by omega), hz]
  simp only [Result.andThen, sliced]
  simp [Addr.add]
theorem two_nsI {g k : Nat} {W : World} {a z : Int} (h : Blk g 3 #[.int .i64 a, .int .i64 z] W) (hk : k ≤ 2) : NsIn W.heap.size W (.slice (some ⟨g, 0, none⟩) k 2) ([a, z].take k) := by
  refine .inr ⟨g, 0, 2, by simp; omega, blk_lt h, fun i x hx => ?_⟩
  rw [Nat.zero_add, blk_cell h]
  rw [List.getElem?_take] at hx
  split at hx
  · match i, hx with
    | 0, hx => simp at hx; subst hx; rfl
    | 1, hx => simp at hx; subst hx; rfl
    | i + 2, hx => simp at hx
  · cases hx
set_option maxHeartbeats 3200000 in
theorem rinstr_calls (x : In) (w : World) (hx : Hid (okX x)) :
    Calls Tryz.prog 36 #[.agg #[.int .i64 x.1, .int .i64 x.2.1, .int .i64 x.2.2]] w fun e w' => StrIs (insP x ++ [10]) e ∧ Below w.heap.size w w' := by
  obtain ⟨o, a, z⟩ := x
  dsimp only
  have q1 := box_below w (.cells #[.int .i64 o, .int .i64 a, .int .i64 z] 67)
  have B1 := hid (blk_new w 67 #[.int .i64 o, .int .i64 a, .int .i64 z])
  have hszi : (w.alloc (.cells #[.int .i64 o, .int .i64 a, .int .i64 z] 67)).heap.size = w.heap.size + 1 := by simp
  go_enter Tryz.func36, Tryz.ntmps36
  go_upto_region 2 with fail
  generalize hW4 : w.alloc (.cells #[.int .i64 o, .int .i64 a, .int .i64 z] 67) = w5 at *
  clear hW4
  have q2 := box_below w5 (.cells #[.int .i64 a, .int .i64 z] 3)
  have B2 := hid (blk_new w5 3 #[.int .i64 a, .int .i64 z])
  have hszj : (w5.alloc (.cells #[.int .i64 a, .int .i64 z] 3)).heap.size = w.heap.size + 2 := by simp [hszi]
  generalize hW5 : w5.alloc (.cells #[.int .i64 a, .int .i64 z] 3) = w6 at *
  have BX := hid (blk_on B1.out q2)
  have CI := hid (fun W (q : Below w6.heap.size w6 W) => blk_cellZ (blk_on BX.out q) 0 rfl)
  have BY := hid (fun W (q : Below w6.heap.size w6 W) => (show Blk (w.heap.size + 1) 3 #[.int .i64 a, .int .i64 z] W by rw [← hszi]; exact blk_on B2.out q))
  have L6 := hid (q1.trans (q2.mono (show w.heap.size ≤ w5.heap.size by omega)))
  have HZ5 := hid hszi
  have hprt : ((prtN o : Nat) : Int) ≤ 2 := by
    rcases prt_cases o with h | h | h <;> rw [h] <;> decide
  have hsl := slice_row (w.heap.size + 1) (prtN o) (by rcases prt_cases o with h | h | h <;> rw [h] <;> decide)
  have hcell : w6.cell? ⟨w.heap.size, 0, none⟩ = some (.int .i64 o) := CI.out w6 (Below.refl _ _)
  clear hW5 q1 q2 B1 B2
  refine wp_region_held_drew (S := fun aZ => aZ.cell? ⟨w.heap.size, 0, none⟩ = some (.int .i64 o)) (by kernel_rfl) ?_ (fun hHeld => ?_)
  · go_simp
  refine tkk 0 ?_
  refine tkk 1 ?_
  refine tkk 3 ?_
  refine tkk 4 ?_
  refine tkk 5 ?_
  refine rdy 2 (fun K hK => ?_)
  go_simp
  refine (rname_calls o _).mono ?_
  rintro e w7 ⟨rfl, b7⟩
  have B7 := hid (show Below w6.heap.size w6 w7 by first | exact b7 | exact ((Below.refl w6.heap.size w6).drew).trans b7)
  have C7 := CI.out w7 B7.out
  clear b7
  go_simp
  refine hK.out _ _ ?_ (fun _ => ?_)
  · (first | assumption | go_simp)
  clear hK K
  refine rdy 6 (fun K hK => ?_)
  go_simp
  refine (rparts_calls o _).mono ?_
  rintro e w8 ⟨rfl, rfl⟩
  go_simp
  refine hK.out _ _ ?_ (fun _ => ?_)
  · (first | assumption | go_simp)
  clear hK K
  refine tkk 7 ?_
  refine rdy 8 (fun K hK => ?_)
  go_simp
  have NS7 := hid (two_nsI (BY.out w8 B7.out) (show prtN o ≤ 2 by rcases prt_cases o with h | h | h <;> rw [h] <;> decide))
  refine (rline_calls ⟨(opW o).toArray⟩ ([a, z].take (prtN o)) _ _ NS7 (hid (ins_rng hx.out)) (by have := ins_few (o, a, z); simp only at this; rw [this]; rcases prt_cases o with h | h | h <;> rw [h] <;> decide) (by have := opW_len o; have hz := Lib.size_eq (⟨(opW o).toArray⟩ : ByteArray); simp at hz ⊢; omega)).mono ?_
  rintro e w9 ⟨⟨t, rfl, ht⟩, b9⟩
  have C9 := blk_cellZ (blk_on (blk_on BX.out B7.out) b9) 0 rfl
  have L9 := hid (L6.out.trans ((B7.out.mono L6.out.size).trans (b9.mono (Nat.le_trans L6.out.size B7.out.size))))
  have HT := hid ht
  clear b9 ht C7
  go_simp
  refine hK.out _ _ ?_ (fun _ => ?_)
  · (first | assumption | go_simp)
  clear hK K
  refine tkk 9 ?_
  refine wpAnyH_done (by kernel_rfl) ?_ _
  clear hcell hsl C9 hprt
  go_wp2_with fail
  go_ret
  exact ⟨⟨t, rfl, by rw [HT.out]; rfl⟩, by first | exact L9.out | exact L9.out.drew⟩
end Go.Proofs.YtnojlfdojmkonaaGreatDoor

namespace Go.Proofs.YtnojlfdojmkonaaGreatDoor
set_option linter.unusedSimpArgs false
set_option maxRecDepth 100000
open Go.RowKit

theorem sz_list (t : ByteArray) : t.size = t.data.toList.length := Lib.size_eq t
/-- a row of numbers that was made for them -/
theorem rline_here (W : World) (g : Nat) (hg : g = W.heap.size) (s : ByteArray) (ns : List Int) (cs : Array Value) (hcs : cs = (ns.map (Value.int .i64)).toArray) (n : Nat) (hn : ns.length = n) (hr : ∀ n ∈ ns, -9223372036854775808 ≤ n ∧ n ≤ 9223372036854775807) (hk4 : ns.length ≤ 1000) (hs : s.size ≤ 1000000000) :
    Calls Tryz.prog 34 #[.string s, .slice (some ⟨g, 0, none⟩) n n] (W.alloc (.cells cs 3)) fun e w' => StrIs (lnP s.data.toList ns ++ [10]) e ∧ Below W.heap.size W w' := by
  subst hcs hn hg
  have q : Below W.heap.size W (W.alloc (.cells (ns.map (Value.int .i64)).toArray 3)) := box_below W _
  exact (rline_calls s ns _ _ (hid (nsIn_blk rfl (blk_new W _ _))) (hid hr) hk4 hs).mono fun e w' ⟨h1, h2⟩ => ⟨h1, q.trans (h2.mono q.size)⟩
theorem rline_nil (s : ByteArray) (W : World) (hs : s.size ≤ 1000000000) :
    Calls Tryz.prog 34 #[.string s, .slice none 0 0] W fun e w' => StrIs (s.data.toList ++ [10]) e ∧ Below W.heap.size W w' :=
  (rline_calls s [] _ W (hid (.inl ⟨none, 0, rfl, rfl⟩)) (hid (by intro n h; cases h)) (by simp) hs).mono fun e w' ⟨h1, h2⟩ => ⟨by simpa [lnP, StrIs] using h1, h2⟩
set_option maxHeartbeats 6400000 in
theorem rtext_calls (B : Nat) (P : Pg) (pv cv : Value) (w : World) (hB : B ≤ w.heap.size) (hP : Hid (PgIn B w P pv cv)) (hok : Hid (okPg P)) (hs : Hid (∀ s ∈ P.pool, s.size ≤ 1000000)) (hl : (txL (pgLP P)).length ≤ 800000000) :
    Calls Tryz.prog 20 #[pgV P pv cv] w fun e w' => StrIs (txL (pgLP P)) e ∧ Below w.heap.size w w' := by
  have PS := hid (fun k s (h : P.pool[k]? = some s) => preP_step (P := P) h)
  have PL := hid (preP_le P)
  have CS := hid (fun j c (h : P.codes[j]? = some c) => preC_step (P := P) h)
  have CL := hid (preC_le P)
  have IS := hid (fun j (c : Cd) i x (h : c.ins[i]? = some x) => preI_step (P := P) (j := j) h)
  have IL := hid (fun j c (h : P.codes[j]? = some c) => preI_le (P := P) h)
  have IZ := hid (preI_zero P)
  have PZ := hid (show preP P 0 = lnP gloW [P.g] ++ [10] by simp [preP, txL])
  have PE := hid (pgL_is P)
  have CZ := hid (show preC P 0 = preP P P.pool.length by simp [preC, txL])
  have G := hid hok.out.1
  have C := hid hok.out.2
  have hfew := hP.out.few
  have hins := hid hP.out.ins
  have POOL := hid (fun W (q : Below B w W) => plIn_on hP.out.pool q)
  have CODES := hid (fun W (q : Below B w W) => cdsIn_on hP.out.codes q)
  obtain ⟨pa, pc, hpv⟩ := plIn_shape hP.out.pool
  obtain ⟨ca, cc, hcv⟩ := cdsIn_shape hP.out.codes
  clear hP hok
  generalize hT : txL (pgLP P) = T at *
  generalize hpP : preP P = PP at *
  generalize hpC : preC P = PC at *
  generalize hpI : preI P = PI at *
  clear hT hpP hpC hpI
  obtain ⟨g, ss, cs⟩ := P
  simp only [pgV] at *
  subst hpv hcv
  have HB := hid hB
  have HL := hid hl
  have AL := hid (box_below w (.cells #[.int .i64 g, .slice pa ss.length pc, .slice ca cs.length cc] 25))
  have BL := hid (blk_new w 25 #[.int .i64 g, .slice pa ss.length pc, .slice ca cs.length cc])
  generalize hW1 : w.alloc (.cells #[.int .i64 g, .slice pa ss.length pc, .slice ca cs.length cc] 25) = w1 at *
  have CELLS := hid (fun (W : World) (q : Below w1.heap.size w1 W) => (show W.cell? ⟨w.heap.size, 0, none⟩ = some (.int .i64 g) ∧ W.cell? ⟨w.heap.size, 1, none⟩ = some (.slice pa ss.length pc) ∧ W.cell? ⟨w.heap.size, 2, none⟩ = some (.slice ca cs.length cc) from
    have hh := blk_on BL.out q
    ⟨blk_cellZ hh 0 rfl, blk_cellZ hh 1 rfl, blk_cellZ hh 2 rfl⟩))
  have BW1 := hid (show B ≤ w1.heap.size from Nat.le_trans hB AL.out.size)
  have POOL1 := hid (fun W (q : Below w1.heap.size w1 W) => POOL.out W ((AL.out.mono hB).trans (q.mono BW1.out)))
  have CODES1 := hid (fun W (q : Below w1.heap.size w1 W) => CODES.out W ((AL.out.mono hB).trans (q.mono BW1.out)))
  obtain ⟨p0, p1, p2⟩ := CELLS.out w1 (Below.refl _ _)
  clear hB hl POOL CODES
  go_enter Tryz.func20, Tryz.ntmps20
  go_wp2_with fail
  refine (rline_here _ _ rfl ⟨#[103, 108, 111, 98, 97, 108, 115]⟩ [g] _ rfl 1 rfl (by intro n hn; rw [List.mem_singleton.1 hn]; have := G.out; unfold rngP at this; omega) (by simp) (by decide)).mono ?_
  rintro e w2 ⟨⟨t, rfl, ht⟩, b2⟩
  have HT := hid (show t.data.toList = PP 0 by rw [PZ.out, ht]; rfl)
  have L2 := hid b2
  clear b2 ht p0 p1 p2
  go_wp2_with fail
  go_loopw [3, 4] (fun sv iv wr => ∃ (t : ByteArray) (k : Nat), k ≤ ss.length ∧ sv = .string t ∧ iv = .int .i64 k ∧ Hid (t.data.toList = PP k ∧ Below w1.heap.size w1 wr)) (fun _ iv _ => ss.length - (intOf iv).toNat)
  case atStart => exact ⟨t, 0, Nat.zero_le _, rfl, rfl, hid ⟨HT.out, L2.out⟩⟩
  case round =>
    clear HT L2
    rename_i t0 w20
    obtain ⟨t, k, hk, rfl, rfl, hR⟩ := hrel
    rename World => wr
    obtain ⟨p0, p1, p2⟩ := CELLS.out wr hR.out.2
    by_cases hkl : k < ss.length
    · have hx : ss[k]? = some ss[k] := List.getElem?_eq_getElem hkl
      obtain ⟨sb, off, rfl, hsb, c0⟩ := plIn_at (POOL1.out wr hR.out.2) hx
      have HS := hid (PS.out k _ hx)
      have hle := PL.out (k + 1)
      rw [HS.out] at hle
      simp only [List.length_append, List.length_singleton] at hle
      have hsz := hs.out ss[k] (List.getElem_mem hkl)
      have HK1 := hid (show k + 1 ≤ ss.length by omega)
      have HTS := hid (show t.size + (polL ss[k]).length + 1 ≤ 800000000 by
        have := sz_list t
        rw [hR.out.1] at this
        have := HL.out
        omega)
      clear hx hle
      generalize ss[k] = s at *
      have TR := hid hR.out.1
      have LR := hid hR.out.2
      clear hR
      generalize PP k = l0 at *
      go_wp2_with fail
      refine (refquote_calls s hsz _).mono ?_
      rintro e w3 ⟨rfl, b3⟩
      have L3 := hid (LR.out.trans (b3.mono LR.out.size))
      have hq1 : ¬ (9223372036854775807 < (5 : Nat) + (quoted s.data.toList).length) := by
        have := quoted_len s.data.toList
        have := sz_list s
        omega
      clear b3 c0 p0 p1 p2
      go_wp2_with fail
      refine (rline_nil _ w3 (by have h8 := quoted_len s.data.toList; have h7 := sz_list s; rw [sz_list, cat_list, List.length_append, show (⟨(quoted s.data.toList).toArray⟩ : ByteArray).data.toList = quoted s.data.toList from rfl, show (⟨#[112, 111, 111, 108, 32]⟩ : ByteArray).data.toList.length = 5 from rfl]; omega)).mono ?_
      rintro e w4 ⟨⟨u, rfl, hu⟩, b4⟩
      have HU := hid (show u.data.toList = polL s ++ [10] by rw [hu, cat_list]; simp [polL, polW])
      have L4 := hid (L3.out.trans (b4.mono L3.out.size))
      have hq2 : ¬ (9223372036854775807 < t.size + u.size) := by
        have h1 := sz_list u
        rw [HU.out, List.length_append, List.length_singleton] at h1
        have := HTS.out
        omega
      clear b4 hu hq1 hsz
      go_wp2_with fail
      exact ⟨⟨_, k + 1, HK1.out, rfl, by simp, hid ⟨by rw [cat_list, HU.out, TR.out, HS.out], L4.out⟩⟩, by have := HK1.out; simp [intOf]; omega⟩
    · have hke : k = ss.length := by omega
      have T5 := hid (show t.data.toList = PC 0 by rw [CZ.out, ← hke]; exact hR.out.1)
      have L5 := hid hR.out.2
      clear hke hk hR PS PL PZ CZ POOL1
      go_wp2_with fail
      clear p0 p1 p2
      go_loopw [3, 5] (fun sv iv wr => ∃ (t : ByteArray) (j : Nat), j ≤ cs.length ∧ sv = .string t ∧ iv = .int .i64 j ∧ Hid (t.data.toList = PC j ∧ Below w1.heap.size w1 wr)) (fun _ iv _ => cs.length - (intOf iv).toNat)
      case atStart => exact ⟨t, 0, Nat.zero_le _, rfl, rfl, hid ⟨T5.out, L5.out⟩⟩
      case round =>
        clear T5 L5
        rename_i t0 w20
        obtain ⟨t, j, hj, rfl, rfl, hR⟩ := hrel
        rename World => wo
        obtain ⟨p0, p1, p2⟩ := CELLS.out wo hR.out.2
        by_cases hjl : j < cs.length
        · have hx : cs[j]? = some cs[j] := List.getElem?_eq_getElem hjl
          obtain ⟨cb, off, rfl, hcb, iv, c0, c1, c2, c3, c4, hI⟩ := cdsIn_at (CODES1.out wo hR.out.2) hx
          have HS := hid (CS.out j _ hx)
          have HI := hid (fun i x => IS.out j cs[j] i x)
          have HLI := hid (IL.out j _ hx)
          have HZ := hid (IZ.out j cs[j])
          have HC := hid (C.out cs[j] (List.getElem_mem hjl))
          have HN := hins.out cs[j] (List.getElem_mem hjl)
          have HK1 := hid (show j + 1 ≤ cs.length by omega)
          clear hx
          generalize cs[j] = c at *
          have TR := hid hR.out.1
          have LR := hid hR.out.2
          clear hR
          obtain ⟨ia, ic, rfl⟩ := insIn_shape hI
          have BWO := hid (show B ≤ wo.heap.size from Nat.le_trans BW1.out LR.out.size)
          have AB := hid (box_below wo (.cells #[.int .i64 c.p, .int .i64 c.l, .int .i64 c.s, .int .i64 c.d, .slice ia c.ins.length ic] 45))
          have BB := hid (blk_new wo 45 #[.int .i64 c.p, .int .i64 c.l, .int .i64 c.s, .int .i64 c.d, .slice ia c.ins.length ic])
          have INS := hid (fun W (q : Below B wo W) => insIn_on hI q)
          clear hI
          go_wp2_with fail
          generalize hW3 : wo.alloc (.cells #[.int .i64 c.p, .int .i64 c.l, .int .i64 c.s, .int .i64 c.d, .slice ia c.ins.length ic] 45) = w3 at *
          have HWO := hid (show w3.heap.size = wo.heap.size + 1 by rw [← hW3]; simp)
          have L3 := hid (LR.out.trans (AB.out.mono LR.out.size))
          have CE := hid (fun (W : World) (q : Below w3.heap.size w3 W) => (show W.cell? ⟨wo.heap.size, 0, none⟩ = some (.int .i64 c.p) ∧ W.cell? ⟨wo.heap.size, 1, none⟩ = some (.int .i64 c.l) ∧ W.cell? ⟨wo.heap.size, 2, none⟩ = some (.int .i64 c.s) ∧ W.cell? ⟨wo.heap.size, 3, none⟩ = some (.int .i64 c.d) ∧ W.cell? ⟨wo.heap.size, 4, none⟩ = some (.slice ia c.ins.length ic) from
            have hh := blk_on BB.out q
            ⟨blk_cellZ hh 0 rfl, blk_cellZ hh 1 rfl, blk_cellZ hh 2 rfl, blk_cellZ hh 3 rfl, blk_cellZ hh 4 rfl⟩))
          have INS3 := hid (fun W (q : Below w3.heap.size w3 W) => INS.out W ((AB.out.mono BWO.out).trans (q.mono (Nat.le_trans BWO.out AB.out.size))))
          clear c0 c1 c2 c3 c4 hW3 INS p0 p1 p2
          refine (rline_here w3 _ HWO.out.symm ⟨#[99, 111, 100, 101]⟩ [c.p, c.l, c.s, c.d] _ rfl 4 rfl (cd_rng HC.out) (by simp) (by decide)).mono ?_
          rintro e w4 ⟨⟨u, rfl, hu⟩, b4⟩
          have HU := hid (show u.data.toList = lnP codW [c.p, c.l, c.s, c.d] ++ [10] from hu)
          have b43 := hid b4
          have hq2 : ¬ (9223372036854775807 < t.size + u.size) := by
            have h1 := sz_list u
            have h2 := sz_list t
            have h3 := HLI.out 0
            have h4 := HL.out
            rw [HU.out] at h1
            rw [TR.out] at h2
            rw [HZ.out, List.length_append] at h3
            omega
          obtain ⟨c0, c1, c2, c3, c4⟩ := CE.out w4 b4
          clear b4 hu
          go_wp2_with fail
          clear c0 c1 c2 c3 c4 hq2
          have HTU := hid (show (t ++ u).data.toList = PI j c 0 by rw [cat_list, HZ.out, TR.out, HU.out])
          generalize t ++ u = tu at *
          go_loopw [3, 7] (fun sv iv wr' => ∃ (t : ByteArray) (i : Nat), i ≤ c.ins.length ∧ sv = .string t ∧ iv = .int .i64 i ∧ Hid (t.data.toList = PI j c i ∧ Below w3.heap.size w3 wr')) (fun _ iv _ => c.ins.length - (intOf iv).toNat)
          case atStart => exact ⟨tu, 0, Nat.zero_le _, rfl, rfl, hid ⟨HTU.out, b43.out⟩⟩
          case round =>
            clear HTU b43
            rename_i t1 w21
            obtain ⟨t, i, hi, rfl, rfl, hR⟩ := hrel
            rename World => wi
            obtain ⟨c0, c1, c2, c3, c4⟩ := CE.out wi hR.out.2
            by_cases hil : i < c.ins.length
            · have hx : c.ins[i]? = some c.ins[i] := List.getElem?_eq_getElem hil
              obtain ⟨ib, ioff, rfl, hib, x0, x1, x2⟩ := insIn_at (INS3.out wi hR.out.2) hx
              have HS' := hid (HI.out i _ hx)
              have hle := HLI.out (i + 1)
              rw [HS'.out] at hle
              simp only [List.length_append, List.length_singleton] at hle
              have HX := hid (HC.out.2.2.2.2 c.ins[i] (List.getElem_mem hil))
              have HK2 := hid (show i + 1 ≤ c.ins.length by omega)
              clear hx
              generalize c.ins[i] = x at *
              have TI := hid hR.out.1
              have LI := hid hR.out.2
              have HTS := hid (show t.size + (insP x).length + 1 ≤ 800000000 by
                have := sz_list t
                rw [TI.out] at this
                have := HL.out
                omega)
              clear hR hle
              go_wp2_with fail
              refine (rinstr_calls x wi HX).mono ?_
              rintro e w5 ⟨⟨u, rfl, hu⟩, b5⟩
              have HU := hid hu
              have L5 := hid (LI.out.trans (b5.mono LI.out.size))
              have hq2 : ¬ (9223372036854775807 < t.size + u.size) := by
                have h1 := sz_list u
                rw [HU.out, List.length_append, List.length_singleton] at h1
                have := HTS.out
                omega
              clear b5 hu x0 x1 x2 c0 c1 c2 c3 c4
              go_wp2_with fail
              exact ⟨⟨_, i + 1, HK2.out, rfl, by simp, hid ⟨by rw [cat_list, HU.out, TI.out, HS'.out], L5.out⟩⟩, by have := HK2.out; simp [intOf]; omega⟩
            · have hie : i = c.ins.length := by omega
              have T6 := hid (show t.data.toList = PC (j + 1) by rw [HS.out, ← hie]; exact hR.out.1)
              have L6 := hid (L3.out.trans (hR.out.2.mono L3.out.size))
              clear hie hi hR
              go_wp2_with fail
              exact ⟨⟨_, j + 1, HK1.out, rfl, by simp, hid ⟨T6.out, L6.out⟩⟩, by have := HK1.out; simp [intOf]; omega⟩
        · have hje : j = cs.length := by omega
          have T6 := hid (show t.data.toList = T by rw [PE.out, ← hje]; exact hR.out.1)
          have L6 := hid (AL.out.trans (hR.out.2.mono AL.out.size))
          clear hje hj hR
          go_wp2_with fail
          go_ret
          exact ⟨⟨_, rfl, T6.out⟩, L6.out⟩

end Go.Proofs.YtnojlfdojmkonaaGreatDoor

namespace Go.Proofs.YtnojlfdojmkonaaGreatDoor
set_option linter.unusedSimpArgs false
set_option maxRecDepth 100000
open Go.RowKit

def PrOutT (CP : Prop) (T : List UInt8) (e : Ending) : Prop := ∃ r s, e = .returned (.tuple #[.string s, .int .i64 r]) ∧ ((r = 0 ∧ CP ∧ s = ⟨T.toArray⟩) ∨ (r = 16 ∧ ¬ CP ∧ s = ⟨#[]⟩))
theorem ba_of {t : ByteArray} {l : List UInt8} (h : t.data.toList = l) : t = ⟨l.toArray⟩ := by
  subst h
  rfl
set_option maxHeartbeats 3200000 in
theorem dprint_calls (B : Nat) (P : Pg) (pv cv : Value) (w : World) (hB : B ≤ w.heap.size) (hP : Hid (PgIn B w P pv cv)) :
    Calls Tryz.prog 10 #[pgV P pv cv] w fun e w' => PrOut P e ∧ Below w.heap.size w w' := by
  have CK := hid (fun W (q : Below B w W) => dcheck_calls B P pv cv W (Nat.le_trans hB q.size) (hP.out.on q))
  have PR := hid (fun W (q : Below B w W) (hc : checkP P) => rtext_calls B P pv cv W (Nat.le_trans hB q.size) (hid (hP.out.on q)) (hid (checkP_ok hc).1) (hid (fun s hs => Nat.le_trans ((checkP_ok hc).2.2.1 s hs) (by decide))) (Nat.le_trans (text_len hc) (by decide)))
  have OUT := hid (show ∀ r s, ((r = 0 ∧ checkP P ∧ s = ⟨(txL (pgLP P)).toArray⟩) ∨ (r = 16 ∧ ¬ checkP P ∧ s = ⟨#[]⟩)) → PrOut P (.returned (.tuple #[.string s, .int .i64 r])) from fun r s h => ⟨r, s, rfl, h⟩)
  obtain ⟨pa, pc, hpv⟩ := plIn_shape hP.out.pool
  obtain ⟨ca, cc, hcv⟩ := cdsIn_shape hP.out.codes
  clear hP
  generalize hCP : checkP P = CP at *
  generalize hT : txL (pgLP P) = T at *
  clear hCP hT
  obtain ⟨g, ss, cs⟩ := P
  simp only [pgV] at *
  subst hpv hcv
  have AL := hid (box_below w (.cells #[.int .i64 g, .slice pa ss.length pc, .slice ca cs.length cc] 25))
  have BL := hid (blk_new w 25 #[.int .i64 g, .slice pa ss.length pc, .slice ca cs.length cc])
  go_enter Tryz.func10, Tryz.ntmps10
  go_wp2_with fail
  generalize hW1 : w.alloc (.cells #[.int .i64 g, .slice pa ss.length pc, .slice ca cs.length cc] 25) = w1 at *
  have CELLS := hid (fun (W : World) (q : Below w1.heap.size w1 W) => (show W.cell? ⟨w.heap.size, 0, none⟩ = some (.int .i64 g) ∧ W.cell? ⟨w.heap.size, 1, none⟩ = some (.slice pa ss.length pc) ∧ W.cell? ⟨w.heap.size, 2, none⟩ = some (.slice ca cs.length cc) from
    have hh := blk_on BL.out q
    ⟨blk_cellZ hh 0 rfl, blk_cellZ hh 1 rfl, blk_cellZ hh 2 rfl⟩))
  clear hW1
  refine (CK.out w1 (AL.out.mono hB)).mono ?_
  rintro e w2 ⟨⟨r, rfl, hr⟩, b2⟩
  have L2 := hid (AL.out.trans (b2.mono AL.out.size))
  have R := hid hr
  have Q2 := hid b2
  clear hr b2
  by_cases h0 : r = 0
  · subst h0
    have hc : CP := by
      rcases R.out with ⟨_, h⟩ | ⟨h, _⟩
      · exact h
      · exact absurd h (by decide)
    have HC := hid hc
    obtain ⟨p0, p1, p2⟩ := CELLS.out w2 Q2.out
    clear hc R
    go_wp2_with fail
    clear p0 p1 p2
    refine (PR.out w2 (L2.out.mono hB) HC.out).mono ?_
    rintro e w3 ⟨⟨t, rfl, ht⟩, b3⟩
    have HT := hid (ba_of ht)
    have L3 := hid (L2.out.trans (b3.mono L2.out.size))
    clear b3 ht
    go_wp2_with fail
    go_ret2
    exact ⟨OUT.out _ _ (.inl ⟨rfl, HC.out, HT.out⟩), L3.out⟩
  · have hc : ¬ CP ∧ r = 16 := by
      rcases R.out with ⟨h, _⟩ | ⟨h, h2⟩
      · exact absurd h h0
      · exact ⟨h2, h⟩
    obtain ⟨hc, rfl⟩ := hc
    go_wp2_with fail
    go_ret2
    exact ⟨OUT.out _ _ (.inr ⟨rfl, hc, rfl⟩), L2.out⟩

end Go.Proofs.YtnojlfdojmkonaaGreatDoor
