/- The document's heap as text. -/
import Derived.Test.YtemidicgipebjaaGreatJoint2
import Derived.Test.YtemidicgipebjaaGreatJoint16
import Derived.Test.YtemidicgipebjaaGreatHpDump
import Derived.Test.YtemidicgipebjaaGreatRefVal
import Derived.Test.YtemidicgipebjaaGreatJoint18
namespace Go.Proofs.YtemidicgipebjaaGreat
set_option linter.unusedSimpArgs false
set_option linter.unusedVariables false
set_option maxRecDepth 100000
open Go.RowKit
theorem ydigs_calls (n : Int) (hn : I64 n) (w : World) :
    Calls Tryz.prog 82 #[.int .i64 n] w fun e w' => ∃ m, e = .returned (.string m) ∧ Txt m (digs n) ∧ m.size ≤ 100 ∧ Below w.heap.size w w' := by
  have hI := hn
  unfold I64 at hI
  refine (refdigits_calls n hI.1 hI.2 w).mono ?_
  rintro e w' ⟨rfl, b⟩
  refine ⟨_, rfl, bys_mk _, ?_, b⟩
  rw [← bys_size, bys_mk]
  have := digs_length n
  omega
theorem yprint_calls (v : Vl) (hv : VFit v) (w : World) :
    Calls Tryz.prog 83 #[.agg #[.int .i64 v.1, .int .i64 v.2.1, .string v.2.2]] w fun e w' => ∃ m, e = .returned (.string m) ∧ Txt m (printB v.1 v.2.1 (bys v.2.2)) ∧ m.size ≤ 5000000 ∧ Below w.heap.size w w' := by
  have hI := hv.1
  unfold I64 at hI
  refine (refprint_calls v.1 v.2.1 hI.1 hI.2 v.2.2 hv.2 w).mono ?_
  rintro e w' ⟨rfl, b⟩
  refine ⟨_, rfl, bys_mk _, ?_, b⟩
  have h1 := print_le v.1 v.2.1 (bys v.2.2)
  rw [bys_size] at h1
  have h2 := hv.2
  rw [← bys_size, bys_mk]
  show (printB v.1 v.2.1 (bys v.2.2)).length ≤ _
  omega
def hdT (k : Nat) (x : Ob) : List UInt8 := (35 :: digs ((k + 1 : Nat) : Int)) ++ [32] ++ (35 :: digs (x.pr : Int))
theorem obT_is (k : Nat) (x : Ob) : obT k x = hdT k x ++ entsT x.l ++ [10] := rfl
theorem hd_len (k : Nat) (x : Ob) : (hdT k x).length ≤ 100 := by
  have h1 := digs_length ((k + 1 : Nat) : Int)
  have h2 := digs_length (x.pr : Int)
  simp only [hdT, List.length_append, List.length_cons, List.length_nil]
  omega
theorem txt_len {m : ByteArray} {l : List UInt8} (h : Txt m l) : m.size = l.length := by rw [← bys_size, h]
section
variable {K : Nat} {H : He} {r f : Nat} {v tv : Value} {q col : Nat → Nat}
set_option maxHeartbeats 4000000 in
theorem ydump_calls (w : World) (p : RhM H r f v tv q col w) (W : WfH K H) (hf : HFit H) :
    Calls Tryz.prog 43 #[.pointer (some ⟨r, 0, none⟩)] w fun e w' => e = .returned (.string ⟨(dumpT H).toArray⟩) ∧ Below w.heap.size w w' := by
  have HP := hid p
  have HW := hid W
  have HF := hid hf
  have hl : H.os.length ≤ 200 := by have := W.len; have := W.most; omega
  have HL := hid (dump_len W hf)
  obtain ⟨ao, cap, rfl⟩ := row_shape p.row
  have hr := p.cells.2.2.2.2.2
  clear p W hf
  go_enter Tryz.func43, Tryz.ntmps43
  go_wp2_with fail
  go_loopw [3, 4] (fun a b wr => ∃ (m : ByteArray) (k : Nat), k ≤ H.os.length ∧ a = .string m ∧ b = .int .i64 (k : Int) ∧ Hid (Txt m (dumpL 0 (H.os.take k))) ∧ Hid (Below w.heap.size w wr)) (fun _ b _ => H.os.length - (intOf b).toNat)
  case atStart => exact ⟨⟨#[]⟩, 0, Nat.zero_le _, rfl, rfl, hid (by simp [Txt, bys, dumpL]), hid (Below.refl _ _)⟩
  case round =>
    obtain ⟨m, k, hk, rfl, rfl, hT, hB⟩ := hrel
    rename World => wA
    have hm : m.size ≤ 40000000000 := by
      have h1 := HL.out k hk
      rw [txt_len hT.out]
      have : k * 193000000 ≤ 200 * 193000000 := Nat.mul_le_mul (by omega) (Nat.le_refl _)
      omega
    have P := HP.out.on hB.out
    obtain ⟨c0, _⟩ := P.cells
    have hrw : r < wA.heap.size := P.cells.2.2.2.2.2
    by_cases hkl : k < H.os.length
    · have dk : decide ((k : Int) < (H.os.length : Int)) = true := decide_eq_true (by omega)
      obtain ⟨x, hx⟩ : ∃ x, H.os[k]? = some x := ⟨H.os[k], List.getElem?_eq_getElem hkl⟩
      obtain ⟨g, cap', hg, hgl, c1⟩ := P.at' hkl
      injection hg with hg1 hg2 hg3
      subst hg1 hg3
      obtain ⟨nv, vv, h1, _⟩ := P.ob k x hx
      obtain ⟨z0, z1, z2, z3, z4, hz⟩ := h1.five
      have hpr := (HW.out.obs k x hx).pr
      have hfew := (HW.out.obs k x hx).few
      have HX := hid hx
      have D1 := hid (fun W : World => ydigs_calls ((k : Int) + 1) (by unfold I64; omega) W)
      have D2 := hid (fun W : World => ydigs_calls (x.pr : Int) (by unfold I64; omega) W)
      have O1 := hid h1
      have n1 : ¬ (9223372036854775807 < m.size + 1) := by omega
      have h3 : IntKind.i64.wrap ((k : Int) + 1) = (k : Int) + 1 := by rw [IntKind.wrap_i64]; omega
      clear P h1 hx
      go_wp2_with fail
      refine wp_region_held_drew (S := fun aZ => aZ.cell? ⟨q k, 0, none⟩ = some (.int .i64 (x.pr : Int))) (by kernel_rfl) ?_ (fun hHeld => ?_)
      · go_simp
      refine tkk 0 ?_
      refine tkk 1 ?_
      refine tkk 2 ?_
      refine tk 3 (v := .int .i64 ((k : Int) + 1)) ?_ ?_
      · (intro w hSw; go_simp <;> first | exact h3 | (simp only [h3]))
      refine tkk 7 ?_
      refine tkk 8 ?_
      refine tkk 9 ?_
      refine tkk 10 ?_
      refine rdy 4 (fun K hK => ?_)
      go_simp
      refine (D1.out _).mono ?_
      rintro e1 w1 ⟨d1, rfl, t1, s1, b1⟩
      have b1 := below_on ((Below.refl wA.heap.size wA).drew) b1
      have B1 := hid (below_in hB.out (Nat.le_refl _) b1)
      have O2 := hid (O1.out.on b1)
      have T1 := hid t1
      have n2 : ¬ (9223372036854775807 < m.size + 1 + d1.size) := by omega
      have n3 : ¬ (9223372036854775807 < m.size + 1 + d1.size + 2) := by omega
      have z0 := O2.out.five.1
      clear b1 t1 D1 O1 hB
      go_simp
      refine hK.out _ _ ?_ (fun _ => ?_)
      · (first | assumption | go_simp)
      clear hK K
      refine tkk 5 ?_
      refine tkk 6 ?_
      refine rdy 11 (fun K hK => ?_)
      go_simp
      refine (D2.out _).mono ?_
      rintro e2 w2 ⟨d2, rfl, t2, s2, b2⟩
      have B2 := hid (below_in B1.out (Nat.le_refl _) b2)
      have O3 := hid (O2.out.on b2)
      have n4 : ¬ (9223372036854775807 < m.size + 1 + d1.size + 2 + d2.size) := by omega
      have z0 := O3.out.five.1
      have TX := hid (show Txt (m ++ ⟨#[35]⟩ ++ d1 ++ ⟨#[32, 35]⟩ ++ d2) (dumpL 0 (H.os.take k) ++ hdT k x ++ entsT (x.l.take 0)) by
        have h0 : bys m = _ := hT.out
        have h1 : bys d1 = _ := T1.out
        have h2 : bys d2 = _ := t2
        unfold Txt
        simp only [bys_append, h0, h1, h2]
        simp [hdT, bys, entsT])
      clear b2 t2 D2 O2 B1 T1 hT
      go_simp
      refine hK.out _ _ ?_ (fun _ => ?_)
      · (first | assumption | go_simp)
      clear hK K
      refine tkk 12 ?_
      refine tkk 13 ?_
      refine wpAnyH_done (by kernel_rfl) ?_ _
      have hok := (HW.out.obs k x HX.out).ok
      have hfx := HF.out k x HX.out
      have HT0 : Hid ((dumpL 0 (H.os.take k)).length ≤ 38600000000) := hid (by
        have h1 := HL.out k hk
        have : k * 193000000 ≤ 200 * 193000000 := Nat.mul_le_mul (by omega) (Nat.le_refl _)
        omega)
      have HLE := hid (fun (j : Nat) (hj : j ≤ x.l.length) (m : ByteArray) (ht : Txt m (dumpL 0 (H.os.take k) ++ hdT k x ++ entsT (x.l.take j))) => (show m.size ≤ 39000000000 by
        have h1 := ents_len (ok_take j hok) (fit_take j hfx)
        have h2 := hd_len k x
        have h3 := HT0.out
        have h4 := txt_len ht
        rw [List.length_append, List.length_append] at h4
        rw [List.length_take] at h1
        have h5 : min j x.l.length * 6000000 ≤ 32 * 6000000 := Nat.mul_le_mul (by omega) (Nat.le_refl _)
        omega))
      have HFX := hid hfx
      have HOK := hid hok
      have ODr := O3
      have BDr := B2
      clear O3 B2 hok hfx hm n1 n2 n3 n4
      generalize m ++ ⟨#[35]⟩ ++ d1 ++ ⟨#[32, 35]⟩ ++ d2 = m1 at *
      obtain ⟨na, nc, hnv⟩ := row_shape ODr.out.nam
      obtain ⟨va, vc, hvv⟩ := row_shape ODr.out.val
      subst hnv hvv
      go_wp2_with fail
      go_loopw [3, 6] (fun a b wr => ∃ (m : ByteArray) (j : Nat), j ≤ x.l.length ∧ a = .string m ∧ b = .int .i64 (j : Int) ∧ Hid (Txt m (dumpL 0 (H.os.take k) ++ hdT k x ++ entsT (x.l.take j))) ∧ Hid (Below w.heap.size w wr) ∧ Hid (RoAt (.int .i64 (x.pr : Int)) (.int .i64 (x.ep : Int)) (.int .i64 (x.sh : Int)) (q k) (.slice na x.l.length nc) (.slice va x.l.length vc) x.l wr)) (fun _ b _ => x.l.length - (intOf b).toNat)
      case atStart => exact ⟨m1, 0, Nat.zero_le _, rfl, rfl, TX, BDr, ODr⟩
      case round =>
        obtain ⟨m2, j, hj, rfl, rfl, hT, hB, hO⟩ := hrel
        have hm := HLE.out j hj m2 hT.out
        obtain ⟨z0, z1, z2, z3, z4, hz⟩ := hO.out.five
        by_cases hjl : j < x.l.length
        · have dj : decide ((j : Int) < (x.l.length : Int)) = true := decide_eq_true (by omega)
          obtain ⟨y, hy⟩ : ∃ y, x.l[j]? = some y := ⟨x.l[j], List.getElem?_eq_getElem hjl⟩
          obtain ⟨gn, cn, en, hgn, c2⟩ := hO.out.name hy
          injection en with en1 en2 en3
          subst en1 en3
          obtain ⟨gv, cv, ev, hgv, v0, v1, v2, _⟩ := hO.out.value hy
          injection ev with ev1 ev2 ev3
          subst ev1 ev3
          have hys : y.1.size ≤ 1000000 := HOK.out.2 y (List.mem_of_getElem? hy)
          have HV := hid (fun W : World => yprint_calls y.2 (HFX.out y (List.mem_of_getElem? hy)) W)
          have HE := hid (ents_take hy)
          have n1 : ¬ (9223372036854775807 < m2.size + 1) := by omega
          have n2 : ¬ (9223372036854775807 < m2.size + 1 + y.1.size) := by omega
          have n3 : ¬ (9223372036854775807 < m2.size + 1 + y.1.size + 1) := by omega
          clear hy
          go_wp2_with fail
          refine wp_region_held_drew (S := fun aZ => aZ.cell? ⟨q k, 1, none⟩ = some (.slice (some ⟨gn, 0, none⟩) x.l.length nc) ∧ aZ.cell? ⟨q k, 2, none⟩ = some (.slice (some ⟨gv, 0, none⟩) x.l.length vc) ∧ aZ.cell? ⟨gn, j, none⟩ = some (.string y.1) ∧ aZ.cell? ⟨gv, j * 3, none⟩ = some (.int .i64 y.2.1) ∧ aZ.cell? ⟨gv, j * 3 + 1, none⟩ = some (.int .i64 y.2.2.1) ∧ aZ.cell? ⟨gv, j * 3 + 2, none⟩ = some (.string y.2.2.2)) (by kernel_rfl) ?_ (fun hHeld => ?_)
          · (refine ⟨?_, ?_, ?_, ?_, ?_, ?_⟩ <;> go_simp)
          refine tkk 0 ?_
          refine tkk 1 ?_
          refine tkk 2 ?_
          refine tkk 3 ?_
          refine tkk 4 ?_
          refine tkk 5 ?_
          refine tkk 6 ?_
          refine tkk 7 ?_
          refine tkk 8 ?_
          refine tkk 9 ?_
          refine tkk 10 ?_
          refine tkk 11 ?_
          refine tkk 12 ?_
          refine tkk 13 ?_
          refine tkk 14 ?_
          refine tkk 15 ?_
          refine tkk 16 ?_
          refine tkk 17 ?_
          refine tkk 18 ?_
          refine tkk 19 ?_
          refine rdy 20 (fun K hK => ?_)
          go_simp
          refine (HV.out _).mono ?_
          rintro e3 w3 ⟨d3, rfl, t3, s3, b3⟩
          have b3 := below_on ((Below.refl wr.heap.size wr).drew) b3
          have B3 := hid (below_in hB.out (Nat.le_refl _) b3)
          have O3 := hid (hO.out.on b3)
          have c2 := cell_on c2 hgn b3
          have v0 := cell_on v0 hgv b3
          have v1 := cell_on v1 hgv b3
          have v2 := cell_on v2 hgv b3
          obtain ⟨z0, z1, z2, z3, z4, hz⟩ := O3.out.five
          have n4 : ¬ (9223372036854775807 < m2.size + 1 + y.1.size + 1 + d3.size) := by omega
          have TX := hid (show Txt (m2 ++ ⟨#[32]⟩ ++ y.1 ++ ⟨#[58]⟩ ++ d3) (dumpL 0 (H.os.take k) ++ hdT k x ++ entsT (x.l.take (j + 1))) by
            have h0 : bys m2 = _ := hT.out
            have h2 : bys d3 = _ := t3
            unfold Txt
            rw [HE.out]
            simp only [bys_append, h0, h2]
            simp [entT, bys])
          clear b3 t3 HV hT hB hO HE
          go_simp
          refine hK.out _ _ ?_ (fun _ => ?_)
          · (refine ⟨?_, ?_, ?_, ?_, ?_, ?_⟩ <;> (first | assumption | go_simp))
          clear hK K
          refine tkk 21 ?_
          refine tkk 22 ?_
          refine wpAnyH_done (by kernel_rfl) ?_ _
          go_wp2_with fail
          exact ⟨⟨_, j + 1, by omega, rfl, by simp, TX, B3, O3⟩, by simp [intOf]; omega⟩
        · have dj : decide ((j : Int) < (x.l.length : Int)) = false := decide_eq_false (by omega)
          have hje : j = x.l.length := by omega
          subst hje
          have n1 : ¬ (9223372036854775807 < m2.size + 1) := by omega
          have TX := hid (show Txt (m2 ++ ⟨#[10]⟩) (dumpL 0 (H.os.take (k + 1))) by
            have h0 : bys m2 = _ := hT.out
            unfold Txt
            rw [dump_take HX.out, obT_is]
            rw [List.take_length] at h0
            simp only [bys_append, h0]
            simp [bys])
          go_wp2_with fail
          exact ⟨⟨_, k + 1, by omega, rfl, by simp, TX, hB⟩, by simp [intOf]; omega⟩
    · have dk : decide ((k : Int) < (H.os.length : Int)) = false := decide_eq_false (by omega)
      have hke : k = H.os.length := by omega
      subst hke
      have hmm : m = ⟨(dumpT H).toArray⟩ := by
        have h := hT.out
        rw [List.take_length] at h
        unfold Txt bys at h
        apply ByteArray.ext
        apply Array.toList_inj.1
        rw [h]
        rfl
      subst hmm
      clear P
      go_wp2_with fail
      go_ret
      exact ⟨rfl, hB.out⟩
end
end Go.Proofs.YtemidicgipebjaaGreat
