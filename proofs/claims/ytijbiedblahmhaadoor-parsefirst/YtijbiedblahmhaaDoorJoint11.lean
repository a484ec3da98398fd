/- One field more. The plain parser's lists as lists with a closure. A list with a closure. An object. A list with a closure. -/
import Derived.Test.YtijbiedblahmhaaDoorPsFn1
import Derived.Deep.CutRange
import Derived.Test.YtijbiedblahmhaaDoorJoint7
import Derived.Test.YtijbiedblahmhaaDoorPsGen
namespace Go.Proofs.YtijbiedblahmhaaDoor
open Go.RowKit

def obStep (g : Nat) (s : List ByteArray × List Nd) (l : List Tok) : PG (List ByteArray × List Nd) :=
  if isW true l then
    if isH l.tail [58] then (match pRank g 1 l.tail.tail with | .ok x _ m => .ok (s.1 ++ [(cur l).text], s.2 ++ [x]) m | .bad m => .bad m)
    else .bad l.tail
  else .bad l

set_option linter.unusedSimpArgs false in
set_option linter.unusedVariables false in
set_option maxRecDepth 100000 in
set_option maxHeartbeats 12800000 in
theorem ob1_no (P nb pb lo : Nat) (L : List Tok) (ok : Nat → Prop) (C : C1 P nb pb lo ok) (kd at_ : Int) (ns : List ByteArray) (ks : List Nd) (kv nv : Value) (w : World) (hkl : ns.length ≤ 40) (hlw : lo ≤ w.heap.size) (l : List Tok) (HW : Hid (isW true l = false)) (H : Hid (PSt P L w l))
    (HK : Hid (Blk nb 26 #[.int .i64 kd, .int .i64 0, .int .i64 0, .string ⟨#[]⟩, nv, kv, .int .i64 at_] w)) (HQ : Hid (Blk pb 32 #[.pointer (some ⟨P, 0, none⟩)] w)) (HM : Hid (SRow lo ok w nv ns)) (HR : Hid (KRow lo (OkN ok nv) w kv ks)) :
    Calls Tryd.prog 86 #[.pointer (some ⟨nb, 0, none⟩), .pointer (some ⟨pb, 0, none⟩)] w (ReadsG (OSt P nb pb lo ok kd at_) lo P L w (.bad l)) := by
  obtain ⟨ao, cap, rfl⟩ := srow_shape HM.out
  have DR := (Below.refl w.heap.size w).drew
  have S0 := hid (H.out.on DR)
  have K0 := hid (blk_on HK.out DR)
  have Q0 := hid (blk_on HQ.out DR)
  have M0 := hid (srow_below HM.out DR)
  have R0 := hid (krow_below HR.out DR)
  have B0 := hid (ButLo.of (lo := lo) (But.of (P := P) DR) hlw)
  have hkP : P < nb := by have := C.k; have := C.p; omega
  have hqP : P < pb := by have := C.q; have := C.p; omega
  have hP : P < lo := C.p
  clear H HK HQ HM HR DR
  go_enter Tryd.func86, Tryd.ntmps86
  go_wp2_with fail
  refine wp_region_held_drew (S := (fun a => a.cell? ⟨pb, 0, none⟩ = some (.pointer (some ⟨P, 0, none⟩)))) (by kernel_rfl) ?_ (fun hHeld => ?_)
  · exact (blk_cell Q0.out 0).trans rfl
  obtain ⟨w0, hw0⟩ : ∃ w0, w.drew = w0 := ⟨_, rfl⟩
  rw [hw0] at hHeld S0 K0 Q0 M0 R0 B0 ⊢
  have hz0 : w.heap.size = w0.heap.size := by rw [← hw0]; rfl
  clear hw0
  refine wpAnyH_take (i := 0) (v := ?vk16) rfl (by kernel_rfl) (by kernel_rfl) (by kernel_rfl) (fun _ _ _ h => h) (Or.inl ⟨by rfl, ?hyk16⟩) (by assumption) ?_
  case hyk16 => (intro w hSw; go_simp <;> (try with_reducible rfl))
  simp only [Act.put, List.setIfInBounds_toArray, List.set_cons_zero, List.set_cons_succ, List.getElem_toArray, List.getElem_cons_succ, List.getElem_cons_zero]
  refine wpAnyH_take (i := 2) (v := ?vk17) rfl (by kernel_rfl) (by kernel_rfl) (by kernel_rfl) (fun _ _ _ h => h) (Or.inl ⟨by rfl, ?hyk17⟩) (by assumption) ?_
  case hyk17 => (intro w hSw; go_simp <;> (try with_reducible rfl))
  simp only [Act.put, List.setIfInBounds_toArray, List.set_cons_zero, List.set_cons_succ, List.getElem_toArray, List.getElem_cons_succ, List.getElem_cons_zero]
  refine wpAnyH_ready (rs := [1, 3]) (by kernel_rfl) (by simp) ?_
  refine AllReadyH.cons rfl (fun K hK => ?_) (AllReadyH.cons rfl (fun K hK => ?_) AllReadyH.nil)
  · have HK := hid hK
    clear hK
    have k0 := blk_cell K0.out 4
    simp at k0
    go_simp
    refine HK.out.out _ _ ?_ (fun hHeld => ?_)
    · exact (blk_cell Q0.out 0).trans rfl
    clear HK K k0
    refine wpAnyH_ready (rs := [3]) (by kernel_rfl) (by simp) ?_
    refine AllReadyH.cons rfl (fun K hK => ?_) AllReadyH.nil
    · clear hK
      go_simp
      refine (prop_no P L l _ S0 HW.out).mono ?_
      rintro e3 w1 ⟨rfl, b3⟩
      have S1 := hid (S0.out.on b3)
      have B1 := hid (B0.out.trans (ButLo.of (But.of (P := P) b3) (by have := B0.out.size; omega)))
      clear b3
      unfold gaveUp
      go_wp2_with fail
      exact ⟨rfl, rfl, S1.out, B1.out⟩
  · clear hK
    go_simp
    refine (prop_no P L l _ S0 HW.out).mono ?_
    rintro e3 w2 ⟨rfl, b3⟩
    have S2 := hid (S0.out.on b3)
    have B2 := hid (B0.out.trans (ButLo.of (But.of (P := P) b3) (by have := B0.out.size; omega)))
    clear b3
    unfold gaveUp
    go_wp2_with fail
    exact ⟨rfl, rfl, S2.out, B2.out⟩

set_option linter.unusedSimpArgs false in
set_option linter.unusedVariables false in
set_option maxRecDepth 100000 in
set_option maxHeartbeats 12800000 in
theorem ob1_colon (P nb pb lo : Nat) (L : List Tok) (ok : Nat → Prop) (C : C1 P nb pb lo ok) (kd at_ : Int) (ns : List ByteArray) (ks : List Nd) (kv nv : Value) (w : World) (hkl : ns.length ≤ 40) (hlw : lo ≤ w.heap.size) (t : Tok) (q : List Tok) (HW : Hid (t.kind = 1 ∨ t.kind = 2)) (H : Hid (PSt P L w (t :: q)))
    (HK : Hid (Blk nb 26 #[.int .i64 kd, .int .i64 0, .int .i64 0, .string ⟨#[]⟩, nv, kv, .int .i64 at_] w)) (HQ : Hid (Blk pb 32 #[.pointer (some ⟨P, 0, none⟩)] w)) (HM : Hid (SRow lo ok w nv ns)) (HR : Hid (KRow lo (OkN ok nv) w kv ks)) (HN : Hid (isH q (⟨#[58]⟩ : ByteArray).data.toList = false)) :
    Calls Tryd.prog 86 #[.pointer (some ⟨nb, 0, none⟩), .pointer (some ⟨pb, 0, none⟩)] w (ReadsG (OSt P nb pb lo ok kd at_) lo P L w (.bad q)) := by
  obtain ⟨ao, cap, rfl⟩ := srow_shape HM.out
  have DR := (Below.refl w.heap.size w).drew
  have S0 := hid (H.out.on DR)
  have K0 := hid (blk_on HK.out DR)
  have Q0 := hid (blk_on HQ.out DR)
  have M0 := hid (srow_below HM.out DR)
  have R0 := hid (krow_below HR.out DR)
  have B0 := hid (ButLo.of (lo := lo) (But.of (P := P) DR) hlw)
  have hkP : P < nb := by have := C.k; have := C.p; omega
  have hqP : P < pb := by have := C.q; have := C.p; omega
  have hP : P < lo := C.p
  clear H HK HQ HM HR DR
  go_enter Tryd.func86, Tryd.ntmps86
  go_upto_region 0 with fail
  go_cut [] from 2 to 8 (fun wx => ∃ nv2, Hid (Blk nb 26 #[.int .i64 kd, .int .i64 0, .int .i64 0, .string ⟨#[]⟩, nv2, kv, .int .i64 at_] wx) ∧ Hid (Blk pb 32 #[.pointer (some ⟨P, 0, none⟩)] wx) ∧ Hid (SRow lo ok wx nv2 (ns ++ [t.text])) ∧ Hid (KRow lo (OkN ok nv2) wx kv ks) ∧ Hid (PSt P L wx q) ∧ Hid (ButLo lo P w wx))
  case first =>
    refine wp_region_held_drew (S := (fun a => a.cell? ⟨pb, 0, none⟩ = some (.pointer (some ⟨P, 0, none⟩)))) (by kernel_rfl) ?_ (fun hHeld => ?_)
    · exact (blk_cell Q0.out 0).trans rfl
    obtain ⟨w0, hw0⟩ : ∃ w0, w.drew = w0 := ⟨_, rfl⟩
    rw [hw0] at hHeld S0 K0 Q0 M0 R0 B0 ⊢
    have hz0 : w.heap.size = w0.heap.size := by rw [← hw0]; rfl
    clear hw0
    refine wpAnyH_take (i := 0) (v := ?vk18) rfl (by kernel_rfl) (by kernel_rfl) (by kernel_rfl) (fun _ _ _ h => h) (Or.inl ⟨by rfl, ?hyk18⟩) (by assumption) ?_
    case hyk18 => (intro w hSw; go_simp <;> (try with_reducible rfl))
    simp only [Act.put, List.setIfInBounds_toArray, List.set_cons_zero, List.set_cons_succ, List.getElem_toArray, List.getElem_cons_succ, List.getElem_cons_zero]
    refine wpAnyH_take (i := 2) (v := ?vk19) rfl (by kernel_rfl) (by kernel_rfl) (by kernel_rfl) (fun _ _ _ h => h) (Or.inl ⟨by rfl, ?hyk19⟩) (by assumption) ?_
    case hyk19 => (intro w hSw; go_simp <;> (try with_reducible rfl))
    simp only [Act.put, List.setIfInBounds_toArray, List.set_cons_zero, List.set_cons_succ, List.getElem_toArray, List.getElem_cons_succ, List.getElem_cons_zero]
    refine wpAnyH_ready (rs := [1, 3]) (by kernel_rfl) (by simp) ?_
    refine AllReadyH.cons rfl (fun K hK => ?_) (AllReadyH.cons rfl (fun K hK => ?_) AllReadyH.nil)
    · have HK := hid hK
      clear hK
      have k0 := blk_cell K0.out 4
      simp at k0
      go_simp
      refine HK.out.out _ _ ?_ (fun hHeld => ?_)
      · exact (blk_cell Q0.out 0).trans rfl
      clear HK K k0
      refine wpAnyH_ready (rs := [3]) (by kernel_rfl) (by simp) ?_
      refine AllReadyH.cons rfl (fun K hK => ?_) AllReadyH.nil
      · have HK := hid hK
        clear hK
        go_simp
        refine (prop_yes P L t q _ S0 HW.out).mono ?_
        rintro e3 w1 ⟨rfl, s3, b3⟩
        have S1 := hid s3
        have K1 := hid (blk_but K0.out b3 (by omega))
        have Q1 := hid (blk_but Q0.out b3 (by omega))
        have M1 := hid (srow_but M0.out b3 C.np)
        have R1 := hid (krow_but R0.out b3 (fun h => C.np h.1))
        have B1 := hid (B0.out.trans (ButLo.of b3 (by have := B0.out.size; omega)))
        have hz1 : w0.heap.size ≤ w1.heap.size := b3.size
        clear s3 b3 S0 K0 Q0 M0 R0 B0
        refine HK.out.out _ _ ?_ (fun hHeld => ?_)
        · exact (blk_cell Q1.out 0).trans rfl
        clear HK K
        refine wpAnyH_ready (rs := [4]) (by kernel_rfl) (by simp) ?_
        refine AllReadyH.cons rfl (fun K hK => ?_) AllReadyH.nil
        · have HK := hid hK
          clear hK
          go_simp
          have AZ := (Below.refl _ w1).alloc (Nat.le_refl _) (.cells #[.string t.text] 9)
          have Y2 := hid (blk_new w1 9 #[.string t.text])
          have S2 := hid (S1.out.on AZ)
          have K2 := hid (blk_on K1.out AZ)
          have Q2 := hid (blk_on Q1.out AZ)
          have M2 := hid (srow_below M1.out AZ)
          have R2 := hid (krow_below R1.out AZ)
          have B2 := hid (B1.out.trans (ButLo.of (But.of (P := P) AZ) (by have := B1.out.size; omega)))
          obtain ⟨w2, hw2⟩ : ∃ w2, w1.alloc (.cells #[.string t.text] 9) = w2 := ⟨_, rfl⟩
          rw [hw2] at AZ Y2 S2 K2 Q2 M2 R2 B2 ⊢
          have hz2 : w2.heap.size = w1.heap.size + 1 := by rw [← hw2]; simp
          refine HK.out.out _ _ ?_ (fun hHeld => ?_)
          · exact (blk_cell Q2.out 0).trans rfl
          clear HK K AZ hw2 S1 K1 Q1 M1 R1 B1
          refine wpAnyH_ready (rs := [5]) (by kernel_rfl) (by simp) ?_
          refine AllReadyH.cons rfl (fun K hK => ?_) AllReadyH.nil
          have HK := hid hK
          clear hK
          obtain ⟨i0, hi, hz0, hz1, hz2⟩ := infoS
          have hsz := B2.out.size
          refine step_append_lies _ rfl _ _ 23 rfl lo 9 i0 _ 1 16 underS hi hz0 hz1 hz2 rfl (by decide) (.slice ao ns.length cap) _ (ns.map Value.string) (by rfl) M2.out.1 ⟨w1.heap.size, 0, none⟩ 1 1 [.string t.text] (by rfl) rfl (sl_cells Y2.out) sl_one (by decide) (by unfold maxLen; omega) (by omega) (by omega) _ rfl ?_
          intro g cap2 w3 hown' hgrow hat hlt
          have S3 := hid (pst_low S2.out (grown_low hgrow (by omega) (fun k hk => by have := (srow_own M2.out k hk).2.1; omega)))
          have K3 := hid (blk_grown K2.out hgrow (fun e => C.nk ((srow_own M2.out _ e.symm).1)))
          have Q3 := hid (blk_grown Q2.out hgrow (fun e => C.nq ((srow_own M2.out _ e.symm).1)))
          have B3 := hid (B2.out.trans (ButLo.grown hgrow (by omega) (fun k hk => (srow_own M2.out k hk).2.1)))
          have PU := sput hown' hgrow hat M2.out R2.out (C.up _ (blk_lt K2.out) (blk_lt Q2.out)) (by omega) (blk_lt K2.out) (blk_lt Q2.out) C.nk C.nq
          obtain ⟨m3, r3, hgl, hgk, hgp⟩ := PU
          have M3 := hid m3
          have R3 := hid r3
          clear hi hz0 hz1 hz2 i0 hown' hgrow hat hlt m3 r3 Y2 S2 K2 Q2 M2 R2 B2
          refine HK.out.out _ _ ?_ (fun hHeld => ?_)
          · exact (blk_cell Q3.out 0).trans rfl
          clear HK K
          refine wpAnyH_take (i := 6) (v := ?vk20) rfl (by kernel_rfl) (by kernel_rfl) (by kernel_rfl) (fun _ _ _ h => h) (Or.inl ⟨by rfl, ?hyk20⟩) (by assumption) ?_
          case hyk20 => (intro w hSw; go_simp <;> (try with_reducible rfl))
          simp only [Act.put, List.setIfInBounds_toArray, List.set_cons_zero, List.set_cons_succ, List.getElem_toArray, List.getElem_cons_succ, List.getElem_cons_zero]
          refine wpAnyH_ready (rs := [7]) (by kernel_rfl) (by simp) ?_
          refine AllReadyH.cons rfl (fun K hK => ?_) AllReadyH.nil
          have HK := hid hK
          clear hK
          have k4 := blk_cell K3.out 4
          have z4 := blk_free K3.out 4
          simp at k4
          go_simp
          have hqk : pb ≠ nb := Ne.symm C.ne
          have K5 := hid (blk_set K3.out 4 (.slice (some ⟨g, 0, none⟩) (ns.length + 1) cap2))
          have Q5 := hid (show Blk pb 32 #[.pointer (some ⟨P, 0, none⟩)] (w3.setCell ⟨nb, 4, none⟩ (.slice (some ⟨g, 0, none⟩) (ns.length + 1) cap2)) from (Below.heap_setCell _ _ _ _ hqk).trans Q3.out)
          have S5 := hid (pst_set S3.out (i := 4) hkP (.slice (some ⟨g, 0, none⟩) (ns.length + 1) cap2))
          have M5 := hid (srow_keep (c := w3.setCell ⟨nb, 4, none⟩ (.slice (some ⟨g, 0, none⟩) (ns.length + 1) cap2)) M3.out (fun b hb => Below.heap_setCell _ _ _ _ (fun e => C.nk (by have := (srow_own M3.out b hb).1; rw [show b = nb from e] at this; exact this))))
          have R5 := hid (krow_keep (c := w3.setCell ⟨nb, 4, none⟩ (.slice (some ⟨g, 0, none⟩) (ns.length + 1) cap2)) R3.out (by simp [World.setCell]) (fun b hb _ => Below.heap_setCell _ _ _ _ (fun e => C.nk (by have := hb.1; rw [show b = nb from e] at this; exact this))))
          have B5 := hid (B3.out.trans (ButLo.set w3 (i := 4) (.slice (some ⟨g, 0, none⟩) (ns.length + 1) cap2) C.k))
          refine HK.out.out _ _ ?_ (fun hHeld => ?_)
          · exact (blk_cell Q5.out 0).trans rfl
          clear HK K S3 K3 Q3 M3 R3 B3 k4 z4
          simp at K5
          refine wpAnyH_done (by kernel_rfl) ?_ _
          go_wp2_with fail
          go_meet
          case rel => exact ⟨_, hid K5.out, hid Q5.out, hid M5.out, hid R5.out, hid S5.out, hid B5.out⟩
    · have HK := hid hK
      clear hK
      go_simp
      refine (prop_yes P L t q _ S0 HW.out).mono ?_
      rintro e3 w4 ⟨rfl, s3, b3⟩
      have S4 := hid s3
      have K4 := hid (blk_but K0.out b3 (by omega))
      have Q4 := hid (blk_but Q0.out b3 (by omega))
      have M4 := hid (srow_but M0.out b3 C.np)
      have R4 := hid (krow_but R0.out b3 (fun h => C.np h.1))
      have B4 := hid (B0.out.trans (ButLo.of b3 (by have := B0.out.size; omega)))
      have hz4 : w0.heap.size ≤ w4.heap.size := b3.size
      clear s3 b3 S0 K0 Q0 M0 R0 B0
      refine HK.out.out _ _ ?_ (fun hHeld => ?_)
      · exact (blk_cell Q4.out 0).trans rfl
      clear HK K
      refine wpAnyH_ready (rs := [1, 4]) (by kernel_rfl) (by simp) ?_
      refine AllReadyH.cons rfl (fun K hK => ?_) (AllReadyH.cons rfl (fun K hK => ?_) AllReadyH.nil)
      · have HK := hid hK
        clear hK
        have k0 := blk_cell K4.out 4
        simp at k0
        go_simp
        refine HK.out.out _ _ ?_ (fun hHeld => ?_)
        · exact (blk_cell Q4.out 0).trans rfl
        clear HK K k0
        refine wpAnyH_ready (rs := [4]) (by kernel_rfl) (by simp) ?_
        refine AllReadyH.cons rfl (fun K hK => ?_) AllReadyH.nil
        · have HK := hid hK
          clear hK
          go_simp
          have AZ := (Below.refl _ w4).alloc (Nat.le_refl _) (.cells #[.string t.text] 9)
          have Y5 := hid (blk_new w4 9 #[.string t.text])
          have S5 := hid (S4.out.on AZ)
          have K5 := hid (blk_on K4.out AZ)
          have Q5 := hid (blk_on Q4.out AZ)
          have M5 := hid (srow_below M4.out AZ)
          have R5 := hid (krow_below R4.out AZ)
          have B5 := hid (B4.out.trans (ButLo.of (But.of (P := P) AZ) (by have := B4.out.size; omega)))
          obtain ⟨w5, hw5⟩ : ∃ w5, w4.alloc (.cells #[.string t.text] 9) = w5 := ⟨_, rfl⟩
          rw [hw5] at AZ Y5 S5 K5 Q5 M5 R5 B5 ⊢
          have hz5 : w5.heap.size = w4.heap.size + 1 := by rw [← hw5]; simp
          refine HK.out.out _ _ ?_ (fun hHeld => ?_)
          · exact (blk_cell Q5.out 0).trans rfl
          clear HK K AZ hw5 S4 K4 Q4 M4 R4 B4
          refine wpAnyH_ready (rs := [5]) (by kernel_rfl) (by simp) ?_
          refine AllReadyH.cons rfl (fun K hK => ?_) AllReadyH.nil
          have HK := hid hK
          clear hK
          obtain ⟨i0, hi, hz0, hz1, hz2⟩ := infoS
          have hsz := B5.out.size
          refine step_append_lies _ rfl _ _ 23 rfl lo 9 i0 _ 1 16 underS hi hz0 hz1 hz2 rfl (by decide) (.slice ao ns.length cap) _ (ns.map Value.string) (by rfl) M5.out.1 ⟨w4.heap.size, 0, none⟩ 1 1 [.string t.text] (by rfl) rfl (sl_cells Y5.out) sl_one (by decide) (by unfold maxLen; omega) (by omega) (by omega) _ rfl ?_
          intro g cap2 w6 hown' hgrow hat hlt
          have S6 := hid (pst_low S5.out (grown_low hgrow (by omega) (fun k hk => by have := (srow_own M5.out k hk).2.1; omega)))
          have K6 := hid (blk_grown K5.out hgrow (fun e => C.nk ((srow_own M5.out _ e.symm).1)))
          have Q6 := hid (blk_grown Q5.out hgrow (fun e => C.nq ((srow_own M5.out _ e.symm).1)))
          have B6 := hid (B5.out.trans (ButLo.grown hgrow (by omega) (fun k hk => (srow_own M5.out k hk).2.1)))
          have PU := sput hown' hgrow hat M5.out R5.out (C.up _ (blk_lt K5.out) (blk_lt Q5.out)) (by omega) (blk_lt K5.out) (blk_lt Q5.out) C.nk C.nq
          obtain ⟨m3, r3, hgl, hgk, hgp⟩ := PU
          have M6 := hid m3
          have R6 := hid r3
          clear hi hz0 hz1 hz2 i0 hown' hgrow hat hlt m3 r3 Y5 S5 K5 Q5 M5 R5 B5
          refine HK.out.out _ _ ?_ (fun hHeld => ?_)
          · exact (blk_cell Q6.out 0).trans rfl
          clear HK K
          refine wpAnyH_take (i := 6) (v := ?vk21) rfl (by kernel_rfl) (by kernel_rfl) (by kernel_rfl) (fun _ _ _ h => h) (Or.inl ⟨by rfl, ?hyk21⟩) (by assumption) ?_
          case hyk21 => (intro w hSw; go_simp <;> (try with_reducible rfl))
          simp only [Act.put, List.setIfInBounds_toArray, List.set_cons_zero, List.set_cons_succ, List.getElem_toArray, List.getElem_cons_succ, List.getElem_cons_zero]
          refine wpAnyH_ready (rs := [7]) (by kernel_rfl) (by simp) ?_
          refine AllReadyH.cons rfl (fun K hK => ?_) AllReadyH.nil
          have HK := hid hK
          clear hK
          have k4 := blk_cell K6.out 4
          have z4 := blk_free K6.out 4
          simp at k4
          go_simp
          have hqk : pb ≠ nb := Ne.symm C.ne
          have K5 := hid (blk_set K6.out 4 (.slice (some ⟨g, 0, none⟩) (ns.length + 1) cap2))
          have Q5 := hid (show Blk pb 32 #[.pointer (some ⟨P, 0, none⟩)] (w6.setCell ⟨nb, 4, none⟩ (.slice (some ⟨g, 0, none⟩) (ns.length + 1) cap2)) from (Below.heap_setCell _ _ _ _ hqk).trans Q6.out)
          have S5 := hid (pst_set S6.out (i := 4) hkP (.slice (some ⟨g, 0, none⟩) (ns.length + 1) cap2))
          have M5 := hid (srow_keep (c := w6.setCell ⟨nb, 4, none⟩ (.slice (some ⟨g, 0, none⟩) (ns.length + 1) cap2)) M6.out (fun b hb => Below.heap_setCell _ _ _ _ (fun e => C.nk (by have := (srow_own M6.out b hb).1; rw [show b = nb from e] at this; exact this))))
          have R5 := hid (krow_keep (c := w6.setCell ⟨nb, 4, none⟩ (.slice (some ⟨g, 0, none⟩) (ns.length + 1) cap2)) R6.out (by simp [World.setCell]) (fun b hb _ => Below.heap_setCell _ _ _ _ (fun e => C.nk (by have := hb.1; rw [show b = nb from e] at this; exact this))))
          have B5 := hid (B6.out.trans (ButLo.set w6 (i := 4) (.slice (some ⟨g, 0, none⟩) (ns.length + 1) cap2) C.k))
          refine HK.out.out _ _ ?_ (fun hHeld => ?_)
          · exact (blk_cell Q5.out 0).trans rfl
          clear HK K S6 K6 Q6 M6 R6 B6 k4 z4
          simp at K5
          refine wpAnyH_done (by kernel_rfl) ?_ _
          go_wp2_with fail
          go_meet
          case rel => exact ⟨_, hid K5.out, hid Q5.out, hid M5.out, hid R5.out, hid S5.out, hid B5.out⟩
      · have HK := hid hK
        clear hK
        go_simp
        have AZ := (Below.refl _ w4).alloc (Nat.le_refl _) (.cells #[.string t.text] 9)
        have Y7 := hid (blk_new w4 9 #[.string t.text])
        have S7 := hid (S4.out.on AZ)
        have K7 := hid (blk_on K4.out AZ)
        have Q7 := hid (blk_on Q4.out AZ)
        have M7 := hid (srow_below M4.out AZ)
        have R7 := hid (krow_below R4.out AZ)
        have B7 := hid (B4.out.trans (ButLo.of (But.of (P := P) AZ) (by have := B4.out.size; omega)))
        obtain ⟨w7, hw7⟩ : ∃ w7, w4.alloc (.cells #[.string t.text] 9) = w7 := ⟨_, rfl⟩
        rw [hw7] at AZ Y7 S7 K7 Q7 M7 R7 B7 ⊢
        have hz7 : w7.heap.size = w4.heap.size + 1 := by rw [← hw7]; simp
        refine HK.out.out _ _ ?_ (fun hHeld => ?_)
        · exact (blk_cell Q7.out 0).trans rfl
        clear HK K AZ hw7 S4 K4 Q4 M4 R4 B4
        refine wpAnyH_ready (rs := [1]) (by kernel_rfl) (by simp) ?_
        refine AllReadyH.cons rfl (fun K hK => ?_) AllReadyH.nil
        · have HK := hid hK
          clear hK
          have k0 := blk_cell K7.out 4
          simp at k0
          go_simp
          refine HK.out.out _ _ ?_ (fun hHeld => ?_)
          · exact (blk_cell Q7.out 0).trans rfl
          clear HK K k0
          refine wpAnyH_ready (rs := [5]) (by kernel_rfl) (by simp) ?_
          refine AllReadyH.cons rfl (fun K hK => ?_) AllReadyH.nil
          have HK := hid hK
          clear hK
          obtain ⟨i0, hi, hz0, hz1, hz2⟩ := infoS
          have hsz := B7.out.size
          refine step_append_lies _ rfl _ _ 23 rfl lo 9 i0 _ 1 16 underS hi hz0 hz1 hz2 rfl (by decide) (.slice ao ns.length cap) _ (ns.map Value.string) (by rfl) M7.out.1 ⟨w4.heap.size, 0, none⟩ 1 1 [.string t.text] (by rfl) rfl (sl_cells Y7.out) sl_one (by decide) (by unfold maxLen; omega) (by omega) (by omega) _ rfl ?_
          intro g cap2 w8 hown' hgrow hat hlt
          have S8 := hid (pst_low S7.out (grown_low hgrow (by omega) (fun k hk => by have := (srow_own M7.out k hk).2.1; omega)))
          have K8 := hid (blk_grown K7.out hgrow (fun e => C.nk ((srow_own M7.out _ e.symm).1)))
          have Q8 := hid (blk_grown Q7.out hgrow (fun e => C.nq ((srow_own M7.out _ e.symm).1)))
          have B8 := hid (B7.out.trans (ButLo.grown hgrow (by omega) (fun k hk => (srow_own M7.out k hk).2.1)))
          have PU := sput hown' hgrow hat M7.out R7.out (C.up _ (blk_lt K7.out) (blk_lt Q7.out)) (by omega) (blk_lt K7.out) (blk_lt Q7.out) C.nk C.nq
          obtain ⟨m3, r3, hgl, hgk, hgp⟩ := PU
          have M8 := hid m3
          have R8 := hid r3
          clear hi hz0 hz1 hz2 i0 hown' hgrow hat hlt m3 r3 Y7 S7 K7 Q7 M7 R7 B7
          refine HK.out.out _ _ ?_ (fun hHeld => ?_)
          · exact (blk_cell Q8.out 0).trans rfl
          clear HK K
          refine wpAnyH_take (i := 6) (v := ?vk22) rfl (by kernel_rfl) (by kernel_rfl) (by kernel_rfl) (fun _ _ _ h => h) (Or.inl ⟨by rfl, ?hyk22⟩) (by assumption) ?_
          case hyk22 => (intro w hSw; go_simp <;> (try with_reducible rfl))
          simp only [Act.put, List.setIfInBounds_toArray, List.set_cons_zero, List.set_cons_succ, List.getElem_toArray, List.getElem_cons_succ, List.getElem_cons_zero]
          refine wpAnyH_ready (rs := [7]) (by kernel_rfl) (by simp) ?_
          refine AllReadyH.cons rfl (fun K hK => ?_) AllReadyH.nil
          have HK := hid hK
          clear hK
          have k4 := blk_cell K8.out 4
          have z4 := blk_free K8.out 4
          simp at k4
          go_simp
          have hqk : pb ≠ nb := Ne.symm C.ne
          have K5 := hid (blk_set K8.out 4 (.slice (some ⟨g, 0, none⟩) (ns.length + 1) cap2))
          have Q5 := hid (show Blk pb 32 #[.pointer (some ⟨P, 0, none⟩)] (w8.setCell ⟨nb, 4, none⟩ (.slice (some ⟨g, 0, none⟩) (ns.length + 1) cap2)) from (Below.heap_setCell _ _ _ _ hqk).trans Q8.out)
          have S5 := hid (pst_set S8.out (i := 4) hkP (.slice (some ⟨g, 0, none⟩) (ns.length + 1) cap2))
          have M5 := hid (srow_keep (c := w8.setCell ⟨nb, 4, none⟩ (.slice (some ⟨g, 0, none⟩) (ns.length + 1) cap2)) M8.out (fun b hb => Below.heap_setCell _ _ _ _ (fun e => C.nk (by have := (srow_own M8.out b hb).1; rw [show b = nb from e] at this; exact this))))
          have R5 := hid (krow_keep (c := w8.setCell ⟨nb, 4, none⟩ (.slice (some ⟨g, 0, none⟩) (ns.length + 1) cap2)) R8.out (by simp [World.setCell]) (fun b hb _ => Below.heap_setCell _ _ _ _ (fun e => C.nk (by have := hb.1; rw [show b = nb from e] at this; exact this))))
          have B5 := hid (B8.out.trans (ButLo.set w8 (i := 4) (.slice (some ⟨g, 0, none⟩) (ns.length + 1) cap2) C.k))
          refine HK.out.out _ _ ?_ (fun hHeld => ?_)
          · exact (blk_cell Q5.out 0).trans rfl
          clear HK K S8 K8 Q8 M8 R8 B8 k4 z4
          simp at K5
          refine wpAnyH_done (by kernel_rfl) ?_ _
          go_wp2_with fail
          go_meet
          case rel => exact ⟨_, hid K5.out, hid Q5.out, hid M5.out, hid R5.out, hid S5.out, hid B5.out⟩
  case rest =>
    obtain ⟨nv, k1, q1, m1, r1, s1, b1⟩ := hcut
    obtain ⟨ao, cap, rfl⟩ := krow_shape r1.out
    clear S0 K0 Q0 M0 R0 B0 HW
    have hzc := b1.out.size
    have q0 := blk_cell q1.out 0
    simp at q0
    go_wp2_with fail
    refine (must_no P L q ⟨#[58]⟩ _ s1 HN.out).mono ?_
    rintro e w2 ⟨rfl, b2⟩
    have S2 := hid (s1.out.on b2)
    have B2 := hid (b1.out.trans (ButLo.of (But.of (P := P) b2) (by omega)))
    clear b2
    unfold gaveUp
    go_wp2_with fail
    exact ⟨rfl, rfl, S2.out, B2.out⟩

set_option linter.unusedSimpArgs false in
set_option linter.unusedVariables false in
set_option maxRecDepth 100000 in
set_option maxHeartbeats 12800000 in
theorem ob1_bad (P nb pb lo : Nat) (L : List Tok) (ok : Nat → Prop) (C : C1 P nb pb lo ok) (kd at_ : Int) (ns : List ByteArray) (ks : List Nd) (kv nv : Value) (w : World) (hkl : ns.length ≤ 40) (hlw : lo ≤ w.heap.size) (t u : Tok) (q z : List Tok) (hqz : q = u :: z) (HW : Hid (t.kind = 1 ∨ t.kind = 2)) (HU : Hid (isT u (⟨#[58]⟩ : ByteArray).data.toList = true)) (H : Hid (PSt P L w (t :: q)))
    (HK : Hid (Blk nb 26 #[.int .i64 kd, .int .i64 0, .int .i64 0, .string ⟨#[]⟩, nv, kv, .int .i64 at_] w)) (HQ : Hid (Blk pb 32 #[.pointer (some ⟨P, 0, none⟩)] w)) (HM : Hid (SRow lo ok w nv ns)) (HR : Hid (KRow lo (OkN ok nv) w kv ks)) (l' : List Tok) (HC : Hid (∀ w', Hid (PSt P L w' z) → Calls Tryd.prog 43 #[.pointer (some ⟨P, 0, none⟩)] w' (Reads P L w' (.bad l')))) :
    Calls Tryd.prog 86 #[.pointer (some ⟨nb, 0, none⟩), .pointer (some ⟨pb, 0, none⟩)] w (ReadsG (OSt P nb pb lo ok kd at_) lo P L w (.bad l')) := by
  obtain ⟨ao, cap, rfl⟩ := srow_shape HM.out
  have DR := (Below.refl w.heap.size w).drew
  have S0 := hid (H.out.on DR)
  have K0 := hid (blk_on HK.out DR)
  have Q0 := hid (blk_on HQ.out DR)
  have M0 := hid (srow_below HM.out DR)
  have R0 := hid (krow_below HR.out DR)
  have B0 := hid (ButLo.of (lo := lo) (But.of (P := P) DR) hlw)
  have hkP : P < nb := by have := C.k; have := C.p; omega
  have hqP : P < pb := by have := C.q; have := C.p; omega
  have hP : P < lo := C.p
  clear H HK HQ HM HR DR
  go_enter Tryd.func86, Tryd.ntmps86
  go_upto_region 0 with fail
  go_cut [] from 2 to 8 (fun wx => ∃ nv2, Hid (Blk nb 26 #[.int .i64 kd, .int .i64 0, .int .i64 0, .string ⟨#[]⟩, nv2, kv, .int .i64 at_] wx) ∧ Hid (Blk pb 32 #[.pointer (some ⟨P, 0, none⟩)] wx) ∧ Hid (SRow lo ok wx nv2 (ns ++ [t.text])) ∧ Hid (KRow lo (OkN ok nv2) wx kv ks) ∧ Hid (PSt P L wx q) ∧ Hid (ButLo lo P w wx))
  case first =>
    refine wp_region_held_drew (S := (fun a => a.cell? ⟨pb, 0, none⟩ = some (.pointer (some ⟨P, 0, none⟩)))) (by kernel_rfl) ?_ (fun hHeld => ?_)
    · exact (blk_cell Q0.out 0).trans rfl
    obtain ⟨w0, hw0⟩ : ∃ w0, w.drew = w0 := ⟨_, rfl⟩
    rw [hw0] at hHeld S0 K0 Q0 M0 R0 B0 ⊢
    have hz0 : w.heap.size = w0.heap.size := by rw [← hw0]; rfl
    clear hw0
    refine wpAnyH_take (i := 0) (v := ?vk23) rfl (by kernel_rfl) (by kernel_rfl) (by kernel_rfl) (fun _ _ _ h => h) (Or.inl ⟨by rfl, ?hyk23⟩) (by assumption) ?_
    case hyk23 => (intro w hSw; go_simp <;> (try with_reducible rfl))
    simp only [Act.put, List.setIfInBounds_toArray, List.set_cons_zero, List.set_cons_succ, List.getElem_toArray, List.getElem_cons_succ, List.getElem_cons_zero]
    refine wpAnyH_take (i := 2) (v := ?vk24) rfl (by kernel_rfl) (by kernel_rfl) (by kernel_rfl) (fun _ _ _ h => h) (Or.inl ⟨by rfl, ?hyk24⟩) (by assumption) ?_
    case hyk24 => (intro w hSw; go_simp <;> (try with_reducible rfl))
    simp only [Act.put, List.setIfInBounds_toArray, List.set_cons_zero, List.set_cons_succ, List.getElem_toArray, List.getElem_cons_succ, List.getElem_cons_zero]
    refine wpAnyH_ready (rs := [1, 3]) (by kernel_rfl) (by simp) ?_
    refine AllReadyH.cons rfl (fun K hK => ?_) (AllReadyH.cons rfl (fun K hK => ?_) AllReadyH.nil)
    · have HK := hid hK
      clear hK
      have k0 := blk_cell K0.out 4
      simp at k0
      go_simp
      refine HK.out.out _ _ ?_ (fun hHeld => ?_)
      · exact (blk_cell Q0.out 0).trans rfl
      clear HK K k0
      refine wpAnyH_ready (rs := [3]) (by kernel_rfl) (by simp) ?_
      refine AllReadyH.cons rfl (fun K hK => ?_) AllReadyH.nil
      · have HK := hid hK
        clear hK
        go_simp
        refine (prop_yes P L t q _ S0 HW.out).mono ?_
        rintro e3 w1 ⟨rfl, s3, b3⟩
        have S1 := hid s3
        have K1 := hid (blk_but K0.out b3 (by omega))
        have Q1 := hid (blk_but Q0.out b3 (by omega))
        have M1 := hid (srow_but M0.out b3 C.np)
        have R1 := hid (krow_but R0.out b3 (fun h => C.np h.1))
        have B1 := hid (B0.out.trans (ButLo.of b3 (by have := B0.out.size; omega)))
        have hz1 : w0.heap.size ≤ w1.heap.size := b3.size
        clear s3 b3 S0 K0 Q0 M0 R0 B0
        refine HK.out.out _ _ ?_ (fun hHeld => ?_)
        · exact (blk_cell Q1.out 0).trans rfl
        clear HK K
        refine wpAnyH_ready (rs := [4]) (by kernel_rfl) (by simp) ?_
        refine AllReadyH.cons rfl (fun K hK => ?_) AllReadyH.nil
        · have HK := hid hK
          clear hK
          go_simp
          have AZ := (Below.refl _ w1).alloc (Nat.le_refl _) (.cells #[.string t.text] 9)
          have Y2 := hid (blk_new w1 9 #[.string t.text])
          have S2 := hid (S1.out.on AZ)
          have K2 := hid (blk_on K1.out AZ)
          have Q2 := hid (blk_on Q1.out AZ)
          have M2 := hid (srow_below M1.out AZ)
          have R2 := hid (krow_below R1.out AZ)
          have B2 := hid (B1.out.trans (ButLo.of (But.of (P := P) AZ) (by have := B1.out.size; omega)))
          obtain ⟨w2, hw2⟩ : ∃ w2, w1.alloc (.cells #[.string t.text] 9) = w2 := ⟨_, rfl⟩
          rw [hw2] at AZ Y2 S2 K2 Q2 M2 R2 B2 ⊢
          have hz2 : w2.heap.size = w1.heap.size + 1 := by rw [← hw2]; simp
          refine HK.out.out _ _ ?_ (fun hHeld => ?_)
          · exact (blk_cell Q2.out 0).trans rfl
          clear HK K AZ hw2 S1 K1 Q1 M1 R1 B1
          refine wpAnyH_ready (rs := [5]) (by kernel_rfl) (by simp) ?_
          refine AllReadyH.cons rfl (fun K hK => ?_) AllReadyH.nil
          have HK := hid hK
          clear hK
          obtain ⟨i0, hi, hz0, hz1, hz2⟩ := infoS
          have hsz := B2.out.size
          refine step_append_lies _ rfl _ _ 23 rfl lo 9 i0 _ 1 16 underS hi hz0 hz1 hz2 rfl (by decide) (.slice ao ns.length cap) _ (ns.map Value.string) (by rfl) M2.out.1 ⟨w1.heap.size, 0, none⟩ 1 1 [.string t.text] (by rfl) rfl (sl_cells Y2.out) sl_one (by decide) (by unfold maxLen; omega) (by omega) (by omega) _ rfl ?_
          intro g cap2 w3 hown' hgrow hat hlt
          have S3 := hid (pst_low S2.out (grown_low hgrow (by omega) (fun k hk => by have := (srow_own M2.out k hk).2.1; omega)))
          have K3 := hid (blk_grown K2.out hgrow (fun e => C.nk ((srow_own M2.out _ e.symm).1)))
          have Q3 := hid (blk_grown Q2.out hgrow (fun e => C.nq ((srow_own M2.out _ e.symm).1)))
          have B3 := hid (B2.out.trans (ButLo.grown hgrow (by omega) (fun k hk => (srow_own M2.out k hk).2.1)))
          have PU := sput hown' hgrow hat M2.out R2.out (C.up _ (blk_lt K2.out) (blk_lt Q2.out)) (by omega) (blk_lt K2.out) (blk_lt Q2.out) C.nk C.nq
          obtain ⟨m3, r3, hgl, hgk, hgp⟩ := PU
          have M3 := hid m3
          have R3 := hid r3
          clear hi hz0 hz1 hz2 i0 hown' hgrow hat hlt m3 r3 Y2 S2 K2 Q2 M2 R2 B2
          refine HK.out.out _ _ ?_ (fun hHeld => ?_)
          · exact (blk_cell Q3.out 0).trans rfl
          clear HK K
          refine wpAnyH_take (i := 6) (v := ?vk25) rfl (by kernel_rfl) (by kernel_rfl) (by kernel_rfl) (fun _ _ _ h => h) (Or.inl ⟨by rfl, ?hyk25⟩) (by assumption) ?_
          case hyk25 => (intro w hSw; go_simp <;> (try with_reducible rfl))
          simp only [Act.put, List.setIfInBounds_toArray, List.set_cons_zero, List.set_cons_succ, List.getElem_toArray, List.getElem_cons_succ, List.getElem_cons_zero]
          refine wpAnyH_ready (rs := [7]) (by kernel_rfl) (by simp) ?_
          refine AllReadyH.cons rfl (fun K hK => ?_) AllReadyH.nil
          have HK := hid hK
          clear hK
          have k4 := blk_cell K3.out 4
          have z4 := blk_free K3.out 4
          simp at k4
          go_simp
          have hqk : pb ≠ nb := Ne.symm C.ne
          have K5 := hid (blk_set K3.out 4 (.slice (some ⟨g, 0, none⟩) (ns.length + 1) cap2))
          have Q5 := hid (show Blk pb 32 #[.pointer (some ⟨P, 0, none⟩)] (w3.setCell ⟨nb, 4, none⟩ (.slice (some ⟨g, 0, none⟩) (ns.length + 1) cap2)) from (Below.heap_setCell _ _ _ _ hqk).trans Q3.out)
          have S5 := hid (pst_set S3.out (i := 4) hkP (.slice (some ⟨g, 0, none⟩) (ns.length + 1) cap2))
          have M5 := hid (srow_keep (c := w3.setCell ⟨nb, 4, none⟩ (.slice (some ⟨g, 0, none⟩) (ns.length + 1) cap2)) M3.out (fun b hb => Below.heap_setCell _ _ _ _ (fun e => C.nk (by have := (srow_own M3.out b hb).1; rw [show b = nb from e] at this; exact this))))
          have R5 := hid (krow_keep (c := w3.setCell ⟨nb, 4, none⟩ (.slice (some ⟨g, 0, none⟩) (ns.length + 1) cap2)) R3.out (by simp [World.setCell]) (fun b hb _ => Below.heap_setCell _ _ _ _ (fun e => C.nk (by have := hb.1; rw [show b = nb from e] at this; exact this))))
          have B5 := hid (B3.out.trans (ButLo.set w3 (i := 4) (.slice (some ⟨g, 0, none⟩) (ns.length + 1) cap2) C.k))
          refine HK.out.out _ _ ?_ (fun hHeld => ?_)
          · exact (blk_cell Q5.out 0).trans rfl
          clear HK K S3 K3 Q3 M3 R3 B3 k4 z4
          simp at K5
          refine wpAnyH_done (by kernel_rfl) ?_ _
          go_wp2_with fail
          go_meet
          case rel => exact ⟨_, hid K5.out, hid Q5.out, hid M5.out, hid R5.out, hid S5.out, hid B5.out⟩
    · have HK := hid hK
      clear hK
      go_simp
      refine (prop_yes P L t q _ S0 HW.out).mono ?_
      rintro e3 w4 ⟨rfl, s3, b3⟩
      have S4 := hid s3
      have K4 := hid (blk_but K0.out b3 (by omega))
      have Q4 := hid (blk_but Q0.out b3 (by omega))
      have M4 := hid (srow_but M0.out b3 C.np)
      have R4 := hid (krow_but R0.out b3 (fun h => C.np h.1))
      have B4 := hid (B0.out.trans (ButLo.of b3 (by have := B0.out.size; omega)))
      have hz4 : w0.heap.size ≤ w4.heap.size := b3.size
      clear s3 b3 S0 K0 Q0 M0 R0 B0
      refine HK.out.out _ _ ?_ (fun hHeld => ?_)
      · exact (blk_cell Q4.out 0).trans rfl
      clear HK K
      refine wpAnyH_ready (rs := [1, 4]) (by kernel_rfl) (by simp) ?_
      refine AllReadyH.cons rfl (fun K hK => ?_) (AllReadyH.cons rfl (fun K hK => ?_) AllReadyH.nil)
      · have HK := hid hK
        clear hK
        have k0 := blk_cell K4.out 4
        simp at k0
        go_simp
        refine HK.out.out _ _ ?_ (fun hHeld => ?_)
        · exact (blk_cell Q4.out 0).trans rfl
        clear HK K k0
        refine wpAnyH_ready (rs := [4]) (by kernel_rfl) (by simp) ?_
        refine AllReadyH.cons rfl (fun K hK => ?_) AllReadyH.nil
        · have HK := hid hK
          clear hK
          go_simp
          have AZ := (Below.refl _ w4).alloc (Nat.le_refl _) (.cells #[.string t.text] 9)
          have Y5 := hid (blk_new w4 9 #[.string t.text])
          have S5 := hid (S4.out.on AZ)
          have K5 := hid (blk_on K4.out AZ)
          have Q5 := hid (blk_on Q4.out AZ)
          have M5 := hid (srow_below M4.out AZ)
          have R5 := hid (krow_below R4.out AZ)
          have B5 := hid (B4.out.trans (ButLo.of (But.of (P := P) AZ) (by have := B4.out.size; omega)))
          obtain ⟨w5, hw5⟩ : ∃ w5, w4.alloc (.cells #[.string t.text] 9) = w5 := ⟨_, rfl⟩
          rw [hw5] at AZ Y5 S5 K5 Q5 M5 R5 B5 ⊢
          have hz5 : w5.heap.size = w4.heap.size + 1 := by rw [← hw5]; simp
          refine HK.out.out _ _ ?_ (fun hHeld => ?_)
          · exact (blk_cell Q5.out 0).trans rfl
          clear HK K AZ hw5 S4 K4 Q4 M4 R4 B4
          refine wpAnyH_ready (rs := [5]) (by kernel_rfl) (by simp) ?_
          refine AllReadyH.cons rfl (fun K hK => ?_) AllReadyH.nil
          have HK := hid hK
          clear hK
          obtain ⟨i0, hi, hz0, hz1, hz2⟩ := infoS
          have hsz := B5.out.size
          refine step_append_lies _ rfl _ _ 23 rfl lo 9 i0 _ 1 16 underS hi hz0 hz1 hz2 rfl (by decide) (.slice ao ns.length cap) _ (ns.map Value.string) (by rfl) M5.out.1 ⟨w4.heap.size, 0, none⟩ 1 1 [.string t.text] (by rfl) rfl (sl_cells Y5.out) sl_one (by decide) (by unfold maxLen; omega) (by omega) (by omega) _ rfl ?_
          intro g cap2 w6 hown' hgrow hat hlt
          have S6 := hid (pst_low S5.out (grown_low hgrow (by omega) (fun k hk => by have := (srow_own M5.out k hk).2.1; omega)))
          have K6 := hid (blk_grown K5.out hgrow (fun e => C.nk ((srow_own M5.out _ e.symm).1)))
          have Q6 := hid (blk_grown Q5.out hgrow (fun e => C.nq ((srow_own M5.out _ e.symm).1)))
          have B6 := hid (B5.out.trans (ButLo.grown hgrow (by omega) (fun k hk => (srow_own M5.out k hk).2.1)))
          have PU := sput hown' hgrow hat M5.out R5.out (C.up _ (blk_lt K5.out) (blk_lt Q5.out)) (by omega) (blk_lt K5.out) (blk_lt Q5.out) C.nk C.nq
          obtain ⟨m3, r3, hgl, hgk, hgp⟩ := PU
          have M6 := hid m3
          have R6 := hid r3
          clear hi hz0 hz1 hz2 i0 hown' hgrow hat hlt m3 r3 Y5 S5 K5 Q5 M5 R5 B5
          refine HK.out.out _ _ ?_ (fun hHeld => ?_)
          · exact (blk_cell Q6.out 0).trans rfl
          clear HK K
          refine wpAnyH_take (i := 6) (v := ?vk26) rfl (by kernel_rfl) (by kernel_rfl) (by kernel_rfl) (fun _ _ _ h => h) (Or.inl ⟨by rfl, ?hyk26⟩) (by assumption) ?_
          case hyk26 => (intro w hSw; go_simp <;> (try with_reducible rfl))
          simp only [Act.put, List.setIfInBounds_toArray, List.set_cons_zero, List.set_cons_succ, List.getElem_toArray, List.getElem_cons_succ, List.getElem_cons_zero]
          refine wpAnyH_ready (rs := [7]) (by kernel_rfl) (by simp) ?_
          refine AllReadyH.cons rfl (fun K hK => ?_) AllReadyH.nil
          have HK := hid hK
          clear hK
          have k4 := blk_cell K6.out 4
          have z4 := blk_free K6.out 4
          simp at k4
          go_simp
          have hqk : pb ≠ nb := Ne.symm C.ne
          have K5 := hid (blk_set K6.out 4 (.slice (some ⟨g, 0, none⟩) (ns.length + 1) cap2))
          have Q5 := hid (show Blk pb 32 #[.pointer (some ⟨P, 0, none⟩)] (w6.setCell ⟨nb, 4, none⟩ (.slice (some ⟨g, 0, none⟩) (ns.length + 1) cap2)) from (Below.heap_setCell _ _ _ _ hqk).trans Q6.out)
          have S5 := hid (pst_set S6.out (i := 4) hkP (.slice (some ⟨g, 0, none⟩) (ns.length + 1) cap2))
          have M5 := hid (srow_keep (c := w6.setCell ⟨nb, 4, none⟩ (.slice (some ⟨g, 0, none⟩) (ns.length + 1) cap2)) M6.out (fun b hb => Below.heap_setCell _ _ _ _ (fun e => C.nk (by have := (srow_own M6.out b hb).1; rw [show b = nb from e] at this; exact this))))
          have R5 := hid (krow_keep (c := w6.setCell ⟨nb, 4, none⟩ (.slice (some ⟨g, 0, none⟩) (ns.length + 1) cap2)) R6.out (by simp [World.setCell]) (fun b hb _ => Below.heap_setCell _ _ _ _ (fun e => C.nk (by have := hb.1; rw [show b = nb from e] at this; exact this))))
          have B5 := hid (B6.out.trans (ButLo.set w6 (i := 4) (.slice (some ⟨g, 0, none⟩) (ns.length + 1) cap2) C.k))
          refine HK.out.out _ _ ?_ (fun hHeld => ?_)
          · exact (blk_cell Q5.out 0).trans rfl
          clear HK K S6 K6 Q6 M6 R6 B6 k4 z4
          simp at K5
          refine wpAnyH_done (by kernel_rfl) ?_ _
          go_wp2_with fail
          go_meet
          case rel => exact ⟨_, hid K5.out, hid Q5.out, hid M5.out, hid R5.out, hid S5.out, hid B5.out⟩
      · have HK := hid hK
        clear hK
        go_simp
        have AZ := (Below.refl _ w4).alloc (Nat.le_refl _) (.cells #[.string t.text] 9)
        have Y7 := hid (blk_new w4 9 #[.string t.text])
        have S7 := hid (S4.out.on AZ)
        have K7 := hid (blk_on K4.out AZ)
        have Q7 := hid (blk_on Q4.out AZ)
        have M7 := hid (srow_below M4.out AZ)
        have R7 := hid (krow_below R4.out AZ)
        have B7 := hid (B4.out.trans (ButLo.of (But.of (P := P) AZ) (by have := B4.out.size; omega)))
        obtain ⟨w7, hw7⟩ : ∃ w7, w4.alloc (.cells #[.string t.text] 9) = w7 := ⟨_, rfl⟩
        rw [hw7] at AZ Y7 S7 K7 Q7 M7 R7 B7 ⊢
        have hz7 : w7.heap.size = w4.heap.size + 1 := by rw [← hw7]; simp
        refine HK.out.out _ _ ?_ (fun hHeld => ?_)
        · exact (blk_cell Q7.out 0).trans rfl
        clear HK K AZ hw7 S4 K4 Q4 M4 R4 B4
        refine wpAnyH_ready (rs := [1]) (by kernel_rfl) (by simp) ?_
        refine AllReadyH.cons rfl (fun K hK => ?_) AllReadyH.nil
        · have HK := hid hK
          clear hK
          have k0 := blk_cell K7.out 4
          simp at k0
          go_simp
          refine HK.out.out _ _ ?_ (fun hHeld => ?_)
          · exact (blk_cell Q7.out 0).trans rfl
          clear HK K k0
          refine wpAnyH_ready (rs := [5]) (by kernel_rfl) (by simp) ?_
          refine AllReadyH.cons rfl (fun K hK => ?_) AllReadyH.nil
          have HK := hid hK
          clear hK
          obtain ⟨i0, hi, hz0, hz1, hz2⟩ := infoS
          have hsz := B7.out.size
          refine step_append_lies _ rfl _ _ 23 rfl lo 9 i0 _ 1 16 underS hi hz0 hz1 hz2 rfl (by decide) (.slice ao ns.length cap) _ (ns.map Value.string) (by rfl) M7.out.1 ⟨w4.heap.size, 0, none⟩ 1 1 [.string t.text] (by rfl) rfl (sl_cells Y7.out) sl_one (by decide) (by unfold maxLen; omega) (by omega) (by omega) _ rfl ?_
          intro g cap2 w8 hown' hgrow hat hlt
          have S8 := hid (pst_low S7.out (grown_low hgrow (by omega) (fun k hk => by have := (srow_own M7.out k hk).2.1; omega)))
          have K8 := hid (blk_grown K7.out hgrow (fun e => C.nk ((srow_own M7.out _ e.symm).1)))
          have Q8 := hid (blk_grown Q7.out hgrow (fun e => C.nq ((srow_own M7.out _ e.symm).1)))
          have B8 := hid (B7.out.trans (ButLo.grown hgrow (by omega) (fun k hk => (srow_own M7.out k hk).2.1)))
          have PU := sput hown' hgrow hat M7.out R7.out (C.up _ (blk_lt K7.out) (blk_lt Q7.out)) (by omega) (blk_lt K7.out) (blk_lt Q7.out) C.nk C.nq
          obtain ⟨m3, r3, hgl, hgk, hgp⟩ := PU
          have M8 := hid m3
          have R8 := hid r3
          clear hi hz0 hz1 hz2 i0 hown' hgrow hat hlt m3 r3 Y7 S7 K7 Q7 M7 R7 B7
          refine HK.out.out _ _ ?_ (fun hHeld => ?_)
          · exact (blk_cell Q8.out 0).trans rfl
          clear HK K
          refine wpAnyH_take (i := 6) (v := ?vk27) rfl (by kernel_rfl) (by kernel_rfl) (by kernel_rfl) (fun _ _ _ h => h) (Or.inl ⟨by rfl, ?hyk27⟩) (by assumption) ?_
          case hyk27 => (intro w hSw; go_simp <;> (try with_reducible rfl))
          simp only [Act.put, List.setIfInBounds_toArray, List.set_cons_zero, List.set_cons_succ, List.getElem_toArray, List.getElem_cons_succ, List.getElem_cons_zero]
          refine wpAnyH_ready (rs := [7]) (by kernel_rfl) (by simp) ?_
          refine AllReadyH.cons rfl (fun K hK => ?_) AllReadyH.nil
          have HK := hid hK
          clear hK
          have k4 := blk_cell K8.out 4
          have z4 := blk_free K8.out 4
          simp at k4
          go_simp
          have hqk : pb ≠ nb := Ne.symm C.ne
          have K5 := hid (blk_set K8.out 4 (.slice (some ⟨g, 0, none⟩) (ns.length + 1) cap2))
          have Q5 := hid (show Blk pb 32 #[.pointer (some ⟨P, 0, none⟩)] (w8.setCell ⟨nb, 4, none⟩ (.slice (some ⟨g, 0, none⟩) (ns.length + 1) cap2)) from (Below.heap_setCell _ _ _ _ hqk).trans Q8.out)
          have S5 := hid (pst_set S8.out (i := 4) hkP (.slice (some ⟨g, 0, none⟩) (ns.length + 1) cap2))
          have M5 := hid (srow_keep (c := w8.setCell ⟨nb, 4, none⟩ (.slice (some ⟨g, 0, none⟩) (ns.length + 1) cap2)) M8.out (fun b hb => Below.heap_setCell _ _ _ _ (fun e => C.nk (by have := (srow_own M8.out b hb).1; rw [show b = nb from e] at this; exact this))))
          have R5 := hid (krow_keep (c := w8.setCell ⟨nb, 4, none⟩ (.slice (some ⟨g, 0, none⟩) (ns.length + 1) cap2)) R8.out (by simp [World.setCell]) (fun b hb _ => Below.heap_setCell _ _ _ _ (fun e => C.nk (by have := hb.1; rw [show b = nb from e] at this; exact this))))
          have B5 := hid (B8.out.trans (ButLo.set w8 (i := 4) (.slice (some ⟨g, 0, none⟩) (ns.length + 1) cap2) C.k))
          refine HK.out.out _ _ ?_ (fun hHeld => ?_)
          · exact (blk_cell Q5.out 0).trans rfl
          clear HK K S8 K8 Q8 M8 R8 B8 k4 z4
          simp at K5
          refine wpAnyH_done (by kernel_rfl) ?_ _
          go_wp2_with fail
          go_meet
          case rel => exact ⟨_, hid K5.out, hid Q5.out, hid M5.out, hid R5.out, hid S5.out, hid B5.out⟩
  case rest =>
    obtain ⟨nv, k1, q1, m1, r1, s1, b1⟩ := hcut
    obtain ⟨ao, cap, rfl⟩ := krow_shape r1.out
    clear S0 K0 Q0 M0 R0 B0 HW
    have hzc := b1.out.size
    have q0 := blk_cell q1.out 0
    simp at q0
    subst hqz
    go_wp2_with fail
    refine (must_yes P L u z ⟨#[58]⟩ _ s1 HU.out).mono ?_
    rintro e w2 ⟨rfl, s2, b2⟩
    have hz2 := b2.size
    have DR := (Below.refl w2.heap.size w2).drew
    have S0 := hid (s2.on DR)
    have K0 := hid (blk_on (blk_but k1.out b2 (by omega)) DR)
    have Q0 := hid (blk_on (blk_but q1.out b2 (by omega)) DR)
    have M0 := hid (srow_below (srow_but m1.out b2 C.np) DR)
    have R0 := hid (krow_below (krow_but r1.out b2 (fun h => C.np h.1)) DR)
    have B0 := hid ((b1.out.trans (ButLo.of b2 (by omega))).trans (ButLo.of (lo := lo) (But.of (P := P) DR) (by have := b2.size; omega)))
    clear k1 q1 m1 r1 s1 b1 s2 b2 DR q0
    go_wp2_with fail
    refine wp_region_held_drew (S := (fun a => a.cell? ⟨pb, 0, none⟩ = some (.pointer (some ⟨P, 0, none⟩)))) (by kernel_rfl) ?_ (fun hHeld => ?_)
    · exact (blk_cell Q0.out 0).trans rfl
    obtain ⟨w0, hw0⟩ : ∃ w0, w2.drew = w0 := ⟨_, rfl⟩
    rw [hw0] at hHeld S0 K0 Q0 M0 R0 B0 ⊢
    have hz0 : w2.heap.size = w0.heap.size := by rw [← hw0]; rfl
    clear hw0
    refine wpAnyH_take (i := 0) (v := ?vk28) rfl (by kernel_rfl) (by kernel_rfl) (by kernel_rfl) (fun _ _ _ h => h) (Or.inl ⟨by rfl, ?hyk28⟩) (by assumption) ?_
    case hyk28 => (intro w hSw; go_simp <;> (try with_reducible rfl))
    simp only [Act.put, List.setIfInBounds_toArray, List.set_cons_zero, List.set_cons_succ, List.getElem_toArray, List.getElem_cons_succ, List.getElem_cons_zero]
    refine wpAnyH_take (i := 2) (v := ?vk29) rfl (by kernel_rfl) (by kernel_rfl) (by kernel_rfl) (fun _ _ _ h => h) (Or.inl ⟨by rfl, ?hyk29⟩) (by assumption) ?_
    case hyk29 => (intro w hSw; go_simp <;> (try with_reducible rfl))
    simp only [Act.put, List.setIfInBounds_toArray, List.set_cons_zero, List.set_cons_succ, List.getElem_toArray, List.getElem_cons_succ, List.getElem_cons_zero]
    refine wpAnyH_ready (rs := [1, 3, 5]) (by kernel_rfl) (by simp) ?_
    refine AllReadyH.cons rfl (fun K hK => ?_) (AllReadyH.cons rfl (fun K hK => ?_) (AllReadyH.cons rfl (fun K hK => ?_) AllReadyH.nil))
    · have HK := hid hK
      clear hK
      have k0 := blk_cell K0.out 5
      simp at k0
      go_simp
      refine HK.out.out _ _ ?_ (fun hHeld => ?_)
      · exact (blk_cell Q0.out 0).trans rfl
      clear HK K k0
      refine wpAnyH_take (i := 4) (v := ?vk30) rfl (by kernel_rfl) (by kernel_rfl) (by kernel_rfl) (fun _ _ _ h => h) (Or.inl ⟨by rfl, ?hyk30⟩) (by assumption) ?_
      case hyk30 => (intro w hSw; go_simp <;> (try with_reducible rfl))
      simp only [Act.put, List.setIfInBounds_toArray, List.set_cons_zero, List.set_cons_succ, List.getElem_toArray, List.getElem_cons_succ, List.getElem_cons_zero]
      refine wpAnyH_ready (rs := [3, 5]) (by kernel_rfl) (by simp) ?_
      refine AllReadyH.cons rfl (fun K hK => ?_) (AllReadyH.cons rfl (fun K hK => ?_) AllReadyH.nil)
      · clear hK
        go_simp
        refine (HC.out _ S0).mono ?_
        rintro e3 w101 ⟨rfl, s3, b3⟩
        have S101 := hid s3
        have B101 := hid (B0.out.trans (ButLo.of b3 (by have := B0.out.size; omega)))
        clear s3 b3
        unfold gaveUp
        go_wp2_with fail
        exact ⟨rfl, rfl, S101.out, B101.out⟩
      · have HK := hid hK
        clear hK
        go_simp
        have AZ := (Below.refl _ w0).alloc (Nat.le_refl _) (.cells #[.int .i64 0, .int .i64 0, .int .i64 0, .string ⟨#[]⟩, .slice none 0 0, .slice none 0 0, .int .i64 0] 26)
        have Y102 := hid (blk_new w0 26 #[.int .i64 0, .int .i64 0, .int .i64 0, .string ⟨#[]⟩, .slice none 0 0, .slice none 0 0, .int .i64 0])
        have S102 := hid (S0.out.on AZ)
        have K102 := hid (blk_on K0.out AZ)
        have Q102 := hid (blk_on Q0.out AZ)
        have R102 := hid (krow_below R0.out AZ)
        have B102 := hid (B0.out.trans (ButLo.of (But.of (P := P) AZ) (by have := B0.out.size; omega)))
        have M102 := hid (srow_below M0.out AZ)
        obtain ⟨w102, hw102⟩ : ∃ w102, w0.alloc (.cells #[.int .i64 0, .int .i64 0, .int .i64 0, .string ⟨#[]⟩, .slice none 0 0, .slice none 0 0, .int .i64 0] 26) = w102 := ⟨_, rfl⟩
        rw [hw102] at AZ Y102 S102 K102 Q102 R102 B102 M102 ⊢
        have hz102 : w102.heap.size = w0.heap.size + 1 := by rw [← hw102]; simp
        refine HK.out.out _ _ ?_ (fun hHeld => ?_)
        · exact (blk_cell Q102.out 0).trans rfl
        clear HK K AZ hw102 S0 K0 Q0 R0 B0 M0
        refine wpAnyH_ready (rs := [3]) (by kernel_rfl) (by simp) ?_
        refine AllReadyH.cons rfl (fun K hK => ?_) AllReadyH.nil
        · clear hK
          go_simp
          refine (HC.out _ S102).mono ?_
          rintro e3 w103 ⟨rfl, s3, b3⟩
          have S103 := hid s3
          have B103 := hid (B102.out.trans (ButLo.of b3 (by have := B102.out.size; omega)))
          clear s3 b3
          unfold gaveUp
          go_wp2_with fail
          exact ⟨rfl, rfl, S103.out, B103.out⟩
    · clear hK
      go_simp
      refine (HC.out _ S0).mono ?_
      rintro e3 w104 ⟨rfl, s3, b3⟩
      have S104 := hid s3
      have B104 := hid (B0.out.trans (ButLo.of b3 (by have := B0.out.size; omega)))
      clear s3 b3
      unfold gaveUp
      go_wp2_with fail
      exact ⟨rfl, rfl, S104.out, B104.out⟩
    · have HK := hid hK
      clear hK
      go_simp
      have AZ := (Below.refl _ w0).alloc (Nat.le_refl _) (.cells #[.int .i64 0, .int .i64 0, .int .i64 0, .string ⟨#[]⟩, .slice none 0 0, .slice none 0 0, .int .i64 0] 26)
      have Y105 := hid (blk_new w0 26 #[.int .i64 0, .int .i64 0, .int .i64 0, .string ⟨#[]⟩, .slice none 0 0, .slice none 0 0, .int .i64 0])
      have S105 := hid (S0.out.on AZ)
      have K105 := hid (blk_on K0.out AZ)
      have Q105 := hid (blk_on Q0.out AZ)
      have R105 := hid (krow_below R0.out AZ)
      have B105 := hid (B0.out.trans (ButLo.of (But.of (P := P) AZ) (by have := B0.out.size; omega)))
      have M105 := hid (srow_below M0.out AZ)
      obtain ⟨w105, hw105⟩ : ∃ w105, w0.alloc (.cells #[.int .i64 0, .int .i64 0, .int .i64 0, .string ⟨#[]⟩, .slice none 0 0, .slice none 0 0, .int .i64 0] 26) = w105 := ⟨_, rfl⟩
      rw [hw105] at AZ Y105 S105 K105 Q105 R105 B105 M105 ⊢
      have hz105 : w105.heap.size = w0.heap.size + 1 := by rw [← hw105]; simp
      refine HK.out.out _ _ ?_ (fun hHeld => ?_)
      · exact (blk_cell Q105.out 0).trans rfl
      clear HK K AZ hw105 S0 K0 Q0 R0 B0 M0
      refine wpAnyH_ready (rs := [1, 3]) (by kernel_rfl) (by simp) ?_
      refine AllReadyH.cons rfl (fun K hK => ?_) (AllReadyH.cons rfl (fun K hK => ?_) AllReadyH.nil)
      · have HK := hid hK
        clear hK
        have k0 := blk_cell K105.out 5
        simp at k0
        go_simp
        refine HK.out.out _ _ ?_ (fun hHeld => ?_)
        · exact (blk_cell Q105.out 0).trans rfl
        clear HK K k0
        refine wpAnyH_take (i := 4) (v := ?vk31) rfl (by kernel_rfl) (by kernel_rfl) (by kernel_rfl) (fun _ _ _ h => h) (Or.inl ⟨by rfl, ?hyk31⟩) (by assumption) ?_
        case hyk31 => (intro w hSw; go_simp <;> (try with_reducible rfl))
        simp only [Act.put, List.setIfInBounds_toArray, List.set_cons_zero, List.set_cons_succ, List.getElem_toArray, List.getElem_cons_succ, List.getElem_cons_zero]
        refine wpAnyH_ready (rs := [3]) (by kernel_rfl) (by simp) ?_
        refine AllReadyH.cons rfl (fun K hK => ?_) AllReadyH.nil
        · clear hK
          go_simp
          refine (HC.out _ S105).mono ?_
          rintro e3 w106 ⟨rfl, s3, b3⟩
          have S106 := hid s3
          have B106 := hid (B105.out.trans (ButLo.of b3 (by have := B105.out.size; omega)))
          clear s3 b3
          unfold gaveUp
          go_wp2_with fail
          exact ⟨rfl, rfl, S106.out, B106.out⟩
      · clear hK
        go_simp
        refine (HC.out _ S105).mono ?_
        rintro e3 w107 ⟨rfl, s3, b3⟩
        have S107 := hid s3
        have B107 := hid (B105.out.trans (ButLo.of b3 (by have := B105.out.size; omega)))
        clear s3 b3
        unfold gaveUp
        go_wp2_with fail
        exact ⟨rfl, rfl, S107.out, B107.out⟩

set_option linter.unusedSimpArgs false in
set_option linter.unusedVariables false in
set_option maxRecDepth 100000 in
set_option maxHeartbeats 12800000 in
theorem ob1_ok (P nb pb lo : Nat) (L : List Tok) (ok : Nat → Prop) (C : C1 P nb pb lo ok) (kd at_ : Int) (ns : List ByteArray) (ks : List Nd) (kv nv : Value) (w : World) (hkl : ns.length ≤ 40) (hlw : lo ≤ w.heap.size) (t u : Tok) (q z : List Tok) (hqz : q = u :: z) (HW : Hid (t.kind = 1 ∨ t.kind = 2)) (HU : Hid (isT u (⟨#[58]⟩ : ByteArray).data.toList = true)) (H : Hid (PSt P L w (t :: q)))
    (HK : Hid (Blk nb 26 #[.int .i64 kd, .int .i64 0, .int .i64 0, .string ⟨#[]⟩, nv, kv, .int .i64 at_] w)) (HQ : Hid (Blk pb 32 #[.pointer (some ⟨P, 0, none⟩)] w)) (HM : Hid (SRow lo ok w nv ns)) (HR : Hid (KRow lo (OkN ok nv) w kv ks)) (hks : ks.length ≤ 40) (x : Nd) (b : Bool) (l' : List Tok) (HC : Hid (∀ w', Hid (PSt P L w' z) → Calls Tryd.prog 43 #[.pointer (some ⟨P, 0, none⟩)] w' (Reads P L w' (.ok x b l')))) :
    Calls Tryd.prog 86 #[.pointer (some ⟨nb, 0, none⟩), .pointer (some ⟨pb, 0, none⟩)] w (ReadsG (OSt P nb pb lo ok kd at_) lo P L w (.ok (ns ++ [t.text], ks ++ [x]) l')) := by
  obtain ⟨ao, cap, rfl⟩ := srow_shape HM.out
  have DR := (Below.refl w.heap.size w).drew
  have S0 := hid (H.out.on DR)
  have K0 := hid (blk_on HK.out DR)
  have Q0 := hid (blk_on HQ.out DR)
  have M0 := hid (srow_below HM.out DR)
  have R0 := hid (krow_below HR.out DR)
  have B0 := hid (ButLo.of (lo := lo) (But.of (P := P) DR) hlw)
  have hkP : P < nb := by have := C.k; have := C.p; omega
  have hqP : P < pb := by have := C.q; have := C.p; omega
  have hP : P < lo := C.p
  clear H HK HQ HM HR DR
  go_enter Tryd.func86, Tryd.ntmps86
  go_upto_region 0 with fail
  go_cut [] from 2 to 8 (fun wx => ∃ nv2, Hid (Blk nb 26 #[.int .i64 kd, .int .i64 0, .int .i64 0, .string ⟨#[]⟩, nv2, kv, .int .i64 at_] wx) ∧ Hid (Blk pb 32 #[.pointer (some ⟨P, 0, none⟩)] wx) ∧ Hid (SRow lo ok wx nv2 (ns ++ [t.text])) ∧ Hid (KRow lo (OkN ok nv2) wx kv ks) ∧ Hid (PSt P L wx q) ∧ Hid (ButLo lo P w wx))
  case first =>
    refine wp_region_held_drew (S := (fun a => a.cell? ⟨pb, 0, none⟩ = some (.pointer (some ⟨P, 0, none⟩)))) (by kernel_rfl) ?_ (fun hHeld => ?_)
    · exact (blk_cell Q0.out 0).trans rfl
    obtain ⟨w0, hw0⟩ : ∃ w0, w.drew = w0 := ⟨_, rfl⟩
    rw [hw0] at hHeld S0 K0 Q0 M0 R0 B0 ⊢
    have hz0 : w.heap.size = w0.heap.size := by rw [← hw0]; rfl
    clear hw0
    refine wpAnyH_take (i := 0) (v := ?vk51) rfl (by kernel_rfl) (by kernel_rfl) (by kernel_rfl) (fun _ _ _ h => h) (Or.inl ⟨by rfl, ?hyk51⟩) (by assumption) ?_
    case hyk51 => (intro w hSw; go_simp <;> (try with_reducible rfl))
    simp only [Act.put, List.setIfInBounds_toArray, List.set_cons_zero, List.set_cons_succ, List.getElem_toArray, List.getElem_cons_succ, List.getElem_cons_zero]
    refine wpAnyH_take (i := 2) (v := ?vk52) rfl (by kernel_rfl) (by kernel_rfl) (by kernel_rfl) (fun _ _ _ h => h) (Or.inl ⟨by rfl, ?hyk52⟩) (by assumption) ?_
    case hyk52 => (intro w hSw; go_simp <;> (try with_reducible rfl))
    simp only [Act.put, List.setIfInBounds_toArray, List.set_cons_zero, List.set_cons_succ, List.getElem_toArray, List.getElem_cons_succ, List.getElem_cons_zero]
    refine wpAnyH_ready (rs := [1, 3]) (by kernel_rfl) (by simp) ?_
    refine AllReadyH.cons rfl (fun K hK => ?_) (AllReadyH.cons rfl (fun K hK => ?_) AllReadyH.nil)
    · have HK := hid hK
      clear hK
      have k0 := blk_cell K0.out 4
      simp at k0
      go_simp
      refine HK.out.out _ _ ?_ (fun hHeld => ?_)
      · exact (blk_cell Q0.out 0).trans rfl
      clear HK K k0
      refine wpAnyH_ready (rs := [3]) (by kernel_rfl) (by simp) ?_
      refine AllReadyH.cons rfl (fun K hK => ?_) AllReadyH.nil
      · have HK := hid hK
        clear hK
        go_simp
        refine (prop_yes P L t q _ S0 HW.out).mono ?_
        rintro e3 w1 ⟨rfl, s3, b3⟩
        have S1 := hid s3
        have K1 := hid (blk_but K0.out b3 (by omega))
        have Q1 := hid (blk_but Q0.out b3 (by omega))
        have M1 := hid (srow_but M0.out b3 C.np)
        have R1 := hid (krow_but R0.out b3 (fun h => C.np h.1))
        have B1 := hid (B0.out.trans (ButLo.of b3 (by have := B0.out.size; omega)))
        have hz1 : w0.heap.size ≤ w1.heap.size := b3.size
        clear s3 b3 S0 K0 Q0 M0 R0 B0
        refine HK.out.out _ _ ?_ (fun hHeld => ?_)
        · exact (blk_cell Q1.out 0).trans rfl
        clear HK K
        refine wpAnyH_ready (rs := [4]) (by kernel_rfl) (by simp) ?_
        refine AllReadyH.cons rfl (fun K hK => ?_) AllReadyH.nil
        · have HK := hid hK
          clear hK
          go_simp
          have AZ := (Below.refl _ w1).alloc (Nat.le_refl _) (.cells #[.string t.text] 9)
          have Y2 := hid (blk_new w1 9 #[.string t.text])
          have S2 := hid (S1.out.on AZ)
          have K2 := hid (blk_on K1.out AZ)
          have Q2 := hid (blk_on Q1.out AZ)
          have M2 := hid (srow_below M1.out AZ)
          have R2 := hid (krow_below R1.out AZ)
          have B2 := hid (B1.out.trans (ButLo.of (But.of (P := P) AZ) (by have := B1.out.size; omega)))
          obtain ⟨w2, hw2⟩ : ∃ w2, w1.alloc (.cells #[.string t.text] 9) = w2 := ⟨_, rfl⟩
          rw [hw2] at AZ Y2 S2 K2 Q2 M2 R2 B2 ⊢
          have hz2 : w2.heap.size = w1.heap.size + 1 := by rw [← hw2]; simp
          refine HK.out.out _ _ ?_ (fun hHeld => ?_)
          · exact (blk_cell Q2.out 0).trans rfl
          clear HK K AZ hw2 S1 K1 Q1 M1 R1 B1
          refine wpAnyH_ready (rs := [5]) (by kernel_rfl) (by simp) ?_
          refine AllReadyH.cons rfl (fun K hK => ?_) AllReadyH.nil
          have HK := hid hK
          clear hK
          obtain ⟨i0, hi, hz0, hz1, hz2⟩ := infoS
          have hsz := B2.out.size
          refine step_append_lies _ rfl _ _ 23 rfl lo 9 i0 _ 1 16 underS hi hz0 hz1 hz2 rfl (by decide) (.slice ao ns.length cap) _ (ns.map Value.string) (by rfl) M2.out.1 ⟨w1.heap.size, 0, none⟩ 1 1 [.string t.text] (by rfl) rfl (sl_cells Y2.out) sl_one (by decide) (by unfold maxLen; omega) (by omega) (by omega) _ rfl ?_
          intro g cap2 w3 hown' hgrow hat hlt
          have S3 := hid (pst_low S2.out (grown_low hgrow (by omega) (fun k hk => by have := (srow_own M2.out k hk).2.1; omega)))
          have K3 := hid (blk_grown K2.out hgrow (fun e => C.nk ((srow_own M2.out _ e.symm).1)))
          have Q3 := hid (blk_grown Q2.out hgrow (fun e => C.nq ((srow_own M2.out _ e.symm).1)))
          have B3 := hid (B2.out.trans (ButLo.grown hgrow (by omega) (fun k hk => (srow_own M2.out k hk).2.1)))
          have PU := sput hown' hgrow hat M2.out R2.out (C.up _ (blk_lt K2.out) (blk_lt Q2.out)) (by omega) (blk_lt K2.out) (blk_lt Q2.out) C.nk C.nq
          obtain ⟨m3, r3, hgl, hgk, hgp⟩ := PU
          have M3 := hid m3
          have R3 := hid r3
          clear hi hz0 hz1 hz2 i0 hown' hgrow hat hlt m3 r3 Y2 S2 K2 Q2 M2 R2 B2
          refine HK.out.out _ _ ?_ (fun hHeld => ?_)
          · exact (blk_cell Q3.out 0).trans rfl
          clear HK K
          refine wpAnyH_take (i := 6) (v := ?vk53) rfl (by kernel_rfl) (by kernel_rfl) (by kernel_rfl) (fun _ _ _ h => h) (Or.inl ⟨by rfl, ?hyk53⟩) (by assumption) ?_
          case hyk53 => (intro w hSw; go_simp <;> (try with_reducible rfl))
          simp only [Act.put, List.setIfInBounds_toArray, List.set_cons_zero, List.set_cons_succ, List.getElem_toArray, List.getElem_cons_succ, List.getElem_cons_zero]
          refine wpAnyH_ready (rs := [7]) (by kernel_rfl) (by simp) ?_
          refine AllReadyH.cons rfl (fun K hK => ?_) AllReadyH.nil
          have HK := hid hK
          clear hK
          have k4 := blk_cell K3.out 4
          have z4 := blk_free K3.out 4
          simp at k4
          go_simp
          have hqk : pb ≠ nb := Ne.symm C.ne
          have K5 := hid (blk_set K3.out 4 (.slice (some ⟨g, 0, none⟩) (ns.length + 1) cap2))
          have Q5 := hid (show Blk pb 32 #[.pointer (some ⟨P, 0, none⟩)] (w3.setCell ⟨nb, 4, none⟩ (.slice (some ⟨g, 0, none⟩) (ns.length + 1) cap2)) from (Below.heap_setCell _ _ _ _ hqk).trans Q3.out)
          have S5 := hid (pst_set S3.out (i := 4) hkP (.slice (some ⟨g, 0, none⟩) (ns.length + 1) cap2))
          have M5 := hid (srow_keep (c := w3.setCell ⟨nb, 4, none⟩ (.slice (some ⟨g, 0, none⟩) (ns.length + 1) cap2)) M3.out (fun b hb => Below.heap_setCell _ _ _ _ (fun e => C.nk (by have := (srow_own M3.out b hb).1; rw [show b = nb from e] at this; exact this))))
          have R5 := hid (krow_keep (c := w3.setCell ⟨nb, 4, none⟩ (.slice (some ⟨g, 0, none⟩) (ns.length + 1) cap2)) R3.out (by simp [World.setCell]) (fun b hb _ => Below.heap_setCell _ _ _ _ (fun e => C.nk (by have := hb.1; rw [show b = nb from e] at this; exact this))))
          have B5 := hid (B3.out.trans (ButLo.set w3 (i := 4) (.slice (some ⟨g, 0, none⟩) (ns.length + 1) cap2) C.k))
          refine HK.out.out _ _ ?_ (fun hHeld => ?_)
          · exact (blk_cell Q5.out 0).trans rfl
          clear HK K S3 K3 Q3 M3 R3 B3 k4 z4
          simp at K5
          refine wpAnyH_done (by kernel_rfl) ?_ _
          go_wp2_with fail
          go_meet
          case rel => exact ⟨_, hid K5.out, hid Q5.out, hid M5.out, hid R5.out, hid S5.out, hid B5.out⟩
    · have HK := hid hK
      clear hK
      go_simp
      refine (prop_yes P L t q _ S0 HW.out).mono ?_
      rintro e3 w4 ⟨rfl, s3, b3⟩
      have S4 := hid s3
      have K4 := hid (blk_but K0.out b3 (by omega))
      have Q4 := hid (blk_but Q0.out b3 (by omega))
      have M4 := hid (srow_but M0.out b3 C.np)
      have R4 := hid (krow_but R0.out b3 (fun h => C.np h.1))
      have B4 := hid (B0.out.trans (ButLo.of b3 (by have := B0.out.size; omega)))
      have hz4 : w0.heap.size ≤ w4.heap.size := b3.size
      clear s3 b3 S0 K0 Q0 M0 R0 B0
      refine HK.out.out _ _ ?_ (fun hHeld => ?_)
      · exact (blk_cell Q4.out 0).trans rfl
      clear HK K
      refine wpAnyH_ready (rs := [1, 4]) (by kernel_rfl) (by simp) ?_
      refine AllReadyH.cons rfl (fun K hK => ?_) (AllReadyH.cons rfl (fun K hK => ?_) AllReadyH.nil)
      · have HK := hid hK
        clear hK
        have k0 := blk_cell K4.out 4
        simp at k0
        go_simp
        refine HK.out.out _ _ ?_ (fun hHeld => ?_)
        · exact (blk_cell Q4.out 0).trans rfl
        clear HK K k0
        refine wpAnyH_ready (rs := [4]) (by kernel_rfl) (by simp) ?_
        refine AllReadyH.cons rfl (fun K hK => ?_) AllReadyH.nil
        · have HK := hid hK
          clear hK
          go_simp
          have AZ := (Below.refl _ w4).alloc (Nat.le_refl _) (.cells #[.string t.text] 9)
          have Y5 := hid (blk_new w4 9 #[.string t.text])
          have S5 := hid (S4.out.on AZ)
          have K5 := hid (blk_on K4.out AZ)
          have Q5 := hid (blk_on Q4.out AZ)
          have M5 := hid (srow_below M4.out AZ)
          have R5 := hid (krow_below R4.out AZ)
          have B5 := hid (B4.out.trans (ButLo.of (But.of (P := P) AZ) (by have := B4.out.size; omega)))
          obtain ⟨w5, hw5⟩ : ∃ w5, w4.alloc (.cells #[.string t.text] 9) = w5 := ⟨_, rfl⟩
          rw [hw5] at AZ Y5 S5 K5 Q5 M5 R5 B5 ⊢
          have hz5 : w5.heap.size = w4.heap.size + 1 := by rw [← hw5]; simp
          refine HK.out.out _ _ ?_ (fun hHeld => ?_)
          · exact (blk_cell Q5.out 0).trans rfl
          clear HK K AZ hw5 S4 K4 Q4 M4 R4 B4
          refine wpAnyH_ready (rs := [5]) (by kernel_rfl) (by simp) ?_
          refine AllReadyH.cons rfl (fun K hK => ?_) AllReadyH.nil
          have HK := hid hK
          clear hK
          obtain ⟨i0, hi, hz0, hz1, hz2⟩ := infoS
          have hsz := B5.out.size
          refine step_append_lies _ rfl _ _ 23 rfl lo 9 i0 _ 1 16 underS hi hz0 hz1 hz2 rfl (by decide) (.slice ao ns.length cap) _ (ns.map Value.string) (by rfl) M5.out.1 ⟨w4.heap.size, 0, none⟩ 1 1 [.string t.text] (by rfl) rfl (sl_cells Y5.out) sl_one (by decide) (by unfold maxLen; omega) (by omega) (by omega) _ rfl ?_
          intro g cap2 w6 hown' hgrow hat hlt
          have S6 := hid (pst_low S5.out (grown_low hgrow (by omega) (fun k hk => by have := (srow_own M5.out k hk).2.1; omega)))
          have K6 := hid (blk_grown K5.out hgrow (fun e => C.nk ((srow_own M5.out _ e.symm).1)))
          have Q6 := hid (blk_grown Q5.out hgrow (fun e => C.nq ((srow_own M5.out _ e.symm).1)))
          have B6 := hid (B5.out.trans (ButLo.grown hgrow (by omega) (fun k hk => (srow_own M5.out k hk).2.1)))
          have PU := sput hown' hgrow hat M5.out R5.out (C.up _ (blk_lt K5.out) (blk_lt Q5.out)) (by omega) (blk_lt K5.out) (blk_lt Q5.out) C.nk C.nq
          obtain ⟨m3, r3, hgl, hgk, hgp⟩ := PU
          have M6 := hid m3
          have R6 := hid r3
          clear hi hz0 hz1 hz2 i0 hown' hgrow hat hlt m3 r3 Y5 S5 K5 Q5 M5 R5 B5
          refine HK.out.out _ _ ?_ (fun hHeld => ?_)
          · exact (blk_cell Q6.out 0).trans rfl
          clear HK K
          refine wpAnyH_take (i := 6) (v := ?vk54) rfl (by kernel_rfl) (by kernel_rfl) (by kernel_rfl) (fun _ _ _ h => h) (Or.inl ⟨by rfl, ?hyk54⟩) (by assumption) ?_
          case hyk54 => (intro w hSw; go_simp <;> (try with_reducible rfl))
          simp only [Act.put, List.setIfInBounds_toArray, List.set_cons_zero, List.set_cons_succ, List.getElem_toArray, List.getElem_cons_succ, List.getElem_cons_zero]
          refine wpAnyH_ready (rs := [7]) (by kernel_rfl) (by simp) ?_
          refine AllReadyH.cons rfl (fun K hK => ?_) AllReadyH.nil
          have HK := hid hK
          clear hK
          have k4 := blk_cell K6.out 4
          have z4 := blk_free K6.out 4
          simp at k4
          go_simp
          have hqk : pb ≠ nb := Ne.symm C.ne
          have K5 := hid (blk_set K6.out 4 (.slice (some ⟨g, 0, none⟩) (ns.length + 1) cap2))
          have Q5 := hid (show Blk pb 32 #[.pointer (some ⟨P, 0, none⟩)] (w6.setCell ⟨nb, 4, none⟩ (.slice (some ⟨g, 0, none⟩) (ns.length + 1) cap2)) from (Below.heap_setCell _ _ _ _ hqk).trans Q6.out)
          have S5 := hid (pst_set S6.out (i := 4) hkP (.slice (some ⟨g, 0, none⟩) (ns.length + 1) cap2))
          have M5 := hid (srow_keep (c := w6.setCell ⟨nb, 4, none⟩ (.slice (some ⟨g, 0, none⟩) (ns.length + 1) cap2)) M6.out (fun b hb => Below.heap_setCell _ _ _ _ (fun e => C.nk (by have := (srow_own M6.out b hb).1; rw [show b = nb from e] at this; exact this))))
          have R5 := hid (krow_keep (c := w6.setCell ⟨nb, 4, none⟩ (.slice (some ⟨g, 0, none⟩) (ns.length + 1) cap2)) R6.out (by simp [World.setCell]) (fun b hb _ => Below.heap_setCell _ _ _ _ (fun e => C.nk (by have := hb.1; rw [show b = nb from e] at this; exact this))))
          have B5 := hid (B6.out.trans (ButLo.set w6 (i := 4) (.slice (some ⟨g, 0, none⟩) (ns.length + 1) cap2) C.k))
          refine HK.out.out _ _ ?_ (fun hHeld => ?_)
          · exact (blk_cell Q5.out 0).trans rfl
          clear HK K S6 K6 Q6 M6 R6 B6 k4 z4
          simp at K5
          refine wpAnyH_done (by kernel_rfl) ?_ _
          go_wp2_with fail
          go_meet
          case rel => exact ⟨_, hid K5.out, hid Q5.out, hid M5.out, hid R5.out, hid S5.out, hid B5.out⟩
      · have HK := hid hK
        clear hK
        go_simp
        have AZ := (Below.refl _ w4).alloc (Nat.le_refl _) (.cells #[.string t.text] 9)
        have Y7 := hid (blk_new w4 9 #[.string t.text])
        have S7 := hid (S4.out.on AZ)
        have K7 := hid (blk_on K4.out AZ)
        have Q7 := hid (blk_on Q4.out AZ)
        have M7 := hid (srow_below M4.out AZ)
        have R7 := hid (krow_below R4.out AZ)
        have B7 := hid (B4.out.trans (ButLo.of (But.of (P := P) AZ) (by have := B4.out.size; omega)))
        obtain ⟨w7, hw7⟩ : ∃ w7, w4.alloc (.cells #[.string t.text] 9) = w7 := ⟨_, rfl⟩
        rw [hw7] at AZ Y7 S7 K7 Q7 M7 R7 B7 ⊢
        have hz7 : w7.heap.size = w4.heap.size + 1 := by rw [← hw7]; simp
        refine HK.out.out _ _ ?_ (fun hHeld => ?_)
        · exact (blk_cell Q7.out 0).trans rfl
        clear HK K AZ hw7 S4 K4 Q4 M4 R4 B4
        refine wpAnyH_ready (rs := [1]) (by kernel_rfl) (by simp) ?_
        refine AllReadyH.cons rfl (fun K hK => ?_) AllReadyH.nil
        · have HK := hid hK
          clear hK
          have k0 := blk_cell K7.out 4
          simp at k0
          go_simp
          refine HK.out.out _ _ ?_ (fun hHeld => ?_)
          · exact (blk_cell Q7.out 0).trans rfl
          clear HK K k0
          refine wpAnyH_ready (rs := [5]) (by kernel_rfl) (by simp) ?_
          refine AllReadyH.cons rfl (fun K hK => ?_) AllReadyH.nil
          have HK := hid hK
          clear hK
          obtain ⟨i0, hi, hz0, hz1, hz2⟩ := infoS
          have hsz := B7.out.size
          refine step_append_lies _ rfl _ _ 23 rfl lo 9 i0 _ 1 16 underS hi hz0 hz1 hz2 rfl (by decide) (.slice ao ns.length cap) _ (ns.map Value.string) (by rfl) M7.out.1 ⟨w4.heap.size, 0, none⟩ 1 1 [.string t.text] (by rfl) rfl (sl_cells Y7.out) sl_one (by decide) (by unfold maxLen; omega) (by omega) (by omega) _ rfl ?_
          intro g cap2 w8 hown' hgrow hat hlt
          have S8 := hid (pst_low S7.out (grown_low hgrow (by omega) (fun k hk => by have := (srow_own M7.out k hk).2.1; omega)))
          have K8 := hid (blk_grown K7.out hgrow (fun e => C.nk ((srow_own M7.out _ e.symm).1)))
          have Q8 := hid (blk_grown Q7.out hgrow (fun e => C.nq ((srow_own M7.out _ e.symm).1)))
          have B8 := hid (B7.out.trans (ButLo.grown hgrow (by omega) (fun k hk => (srow_own M7.out k hk).2.1)))
          have PU := sput hown' hgrow hat M7.out R7.out (C.up _ (blk_lt K7.out) (blk_lt Q7.out)) (by omega) (blk_lt K7.out) (blk_lt Q7.out) C.nk C.nq
          obtain ⟨m3, r3, hgl, hgk, hgp⟩ := PU
          have M8 := hid m3
          have R8 := hid r3
          clear hi hz0 hz1 hz2 i0 hown' hgrow hat hlt m3 r3 Y7 S7 K7 Q7 M7 R7 B7
          refine HK.out.out _ _ ?_ (fun hHeld => ?_)
          · exact (blk_cell Q8.out 0).trans rfl
          clear HK K
          refine wpAnyH_take (i := 6) (v := ?vk55) rfl (by kernel_rfl) (by kernel_rfl) (by kernel_rfl) (fun _ _ _ h => h) (Or.inl ⟨by rfl, ?hyk55⟩) (by assumption) ?_
          case hyk55 => (intro w hSw; go_simp <;> (try with_reducible rfl))
          simp only [Act.put, List.setIfInBounds_toArray, List.set_cons_zero, List.set_cons_succ, List.getElem_toArray, List.getElem_cons_succ, List.getElem_cons_zero]
          refine wpAnyH_ready (rs := [7]) (by kernel_rfl) (by simp) ?_
          refine AllReadyH.cons rfl (fun K hK => ?_) AllReadyH.nil
          have HK := hid hK
          clear hK
          have k4 := blk_cell K8.out 4
          have z4 := blk_free K8.out 4
          simp at k4
          go_simp
          have hqk : pb ≠ nb := Ne.symm C.ne
          have K5 := hid (blk_set K8.out 4 (.slice (some ⟨g, 0, none⟩) (ns.length + 1) cap2))
          have Q5 := hid (show Blk pb 32 #[.pointer (some ⟨P, 0, none⟩)] (w8.setCell ⟨nb, 4, none⟩ (.slice (some ⟨g, 0, none⟩) (ns.length + 1) cap2)) from (Below.heap_setCell _ _ _ _ hqk).trans Q8.out)
          have S5 := hid (pst_set S8.out (i := 4) hkP (.slice (some ⟨g, 0, none⟩) (ns.length + 1) cap2))
          have M5 := hid (srow_keep (c := w8.setCell ⟨nb, 4, none⟩ (.slice (some ⟨g, 0, none⟩) (ns.length + 1) cap2)) M8.out (fun b hb => Below.heap_setCell _ _ _ _ (fun e => C.nk (by have := (srow_own M8.out b hb).1; rw [show b = nb from e] at this; exact this))))
          have R5 := hid (krow_keep (c := w8.setCell ⟨nb, 4, none⟩ (.slice (some ⟨g, 0, none⟩) (ns.length + 1) cap2)) R8.out (by simp [World.setCell]) (fun b hb _ => Below.heap_setCell _ _ _ _ (fun e => C.nk (by have := hb.1; rw [show b = nb from e] at this; exact this))))
          have B5 := hid (B8.out.trans (ButLo.set w8 (i := 4) (.slice (some ⟨g, 0, none⟩) (ns.length + 1) cap2) C.k))
          refine HK.out.out _ _ ?_ (fun hHeld => ?_)
          · exact (blk_cell Q5.out 0).trans rfl
          clear HK K S8 K8 Q8 M8 R8 B8 k4 z4
          simp at K5
          refine wpAnyH_done (by kernel_rfl) ?_ _
          go_wp2_with fail
          go_meet
          case rel => exact ⟨_, hid K5.out, hid Q5.out, hid M5.out, hid R5.out, hid S5.out, hid B5.out⟩
  case rest =>
    obtain ⟨nv, k1, q1, m1, r1, s1, b1⟩ := hcut
    obtain ⟨ao, cap, rfl⟩ := krow_shape r1.out
    clear S0 K0 Q0 M0 R0 B0 HW
    have hzc := b1.out.size
    have q0 := blk_cell q1.out 0
    simp at q0
    subst hqz
    go_wp2_with fail
    refine (must_yes P L u z ⟨#[58]⟩ _ s1 HU.out).mono ?_
    rintro e w2 ⟨rfl, s2, b2⟩
    have hz2 := b2.size
    have DR := (Below.refl w2.heap.size w2).drew
    have S0 := hid (s2.on DR)
    have K0 := hid (blk_on (blk_but k1.out b2 (by omega)) DR)
    have Q0 := hid (blk_on (blk_but q1.out b2 (by omega)) DR)
    have M0 := hid (srow_below (srow_but m1.out b2 C.np) DR)
    have R0 := hid (krow_below (krow_but r1.out b2 (fun h => C.np h.1)) DR)
    have B0 := hid ((b1.out.trans (ButLo.of b2 (by omega))).trans (ButLo.of (lo := lo) (But.of (P := P) DR) (by have := b2.size; omega)))
    clear k1 q1 m1 r1 s1 b1 s2 b2 DR q0
    go_wp2_with fail
    refine wp_region_held_drew (S := (fun a => a.cell? ⟨pb, 0, none⟩ = some (.pointer (some ⟨P, 0, none⟩)))) (by kernel_rfl) ?_ (fun hHeld => ?_)
    · exact (blk_cell Q0.out 0).trans rfl
    obtain ⟨w0, hw0⟩ : ∃ w0, w2.drew = w0 := ⟨_, rfl⟩
    rw [hw0] at hHeld S0 K0 Q0 M0 R0 B0 ⊢
    have hz0 : w2.heap.size = w0.heap.size := by rw [← hw0]; rfl
    clear hw0
    refine wpAnyH_take (i := 0) (v := ?vk32) rfl (by kernel_rfl) (by kernel_rfl) (by kernel_rfl) (fun _ _ _ h => h) (Or.inl ⟨by rfl, ?hyk32⟩) (by assumption) ?_
    case hyk32 => (intro w hSw; go_simp <;> (try with_reducible rfl))
    simp only [Act.put, List.setIfInBounds_toArray, List.set_cons_zero, List.set_cons_succ, List.getElem_toArray, List.getElem_cons_succ, List.getElem_cons_zero]
    refine wpAnyH_take (i := 2) (v := ?vk33) rfl (by kernel_rfl) (by kernel_rfl) (by kernel_rfl) (fun _ _ _ h => h) (Or.inl ⟨by rfl, ?hyk33⟩) (by assumption) ?_
    case hyk33 => (intro w hSw; go_simp <;> (try with_reducible rfl))
    simp only [Act.put, List.setIfInBounds_toArray, List.set_cons_zero, List.set_cons_succ, List.getElem_toArray, List.getElem_cons_succ, List.getElem_cons_zero]
    refine wpAnyH_ready (rs := [1, 3, 5]) (by kernel_rfl) (by simp) ?_
    refine AllReadyH.cons rfl (fun K hK => ?_) (AllReadyH.cons rfl (fun K hK => ?_) (AllReadyH.cons rfl (fun K hK => ?_) AllReadyH.nil))
    · have HK := hid hK
      clear hK
      have k0 := blk_cell K0.out 5
      simp at k0
      go_simp
      refine HK.out.out _ _ ?_ (fun hHeld => ?_)
      · exact (blk_cell Q0.out 0).trans rfl
      clear HK K k0
      refine wpAnyH_take (i := 4) (v := ?vk34) rfl (by kernel_rfl) (by kernel_rfl) (by kernel_rfl) (fun _ _ _ h => h) (Or.inl ⟨by rfl, ?hyk34⟩) (by assumption) ?_
      case hyk34 => (intro w hSw; go_simp <;> (try with_reducible rfl))
      simp only [Act.put, List.setIfInBounds_toArray, List.set_cons_zero, List.set_cons_succ, List.getElem_toArray, List.getElem_cons_succ, List.getElem_cons_zero]
      refine wpAnyH_ready (rs := [3, 5]) (by kernel_rfl) (by simp) ?_
      refine AllReadyH.cons rfl (fun K hK => ?_) (AllReadyH.cons rfl (fun K hK => ?_) AllReadyH.nil)
      · have HK := hid hK
        clear hK
        go_simp
        refine (HC.out _ S0).mono ?_
        rintro e3 w101 ⟨⟨nv3, kv3, rfl, n3⟩, s3, b3⟩
        obtain ⟨f1, g1, f2, g2, rfl, rfl⟩ := ndR_shape n3
        have N101 := hid (ndR_els (ok := (OkN ok nv)) (v := (.slice ao ks.length cap)) n3 (fun b hb => ⟨C.up b (by have := blk_lt K0.out; omega) (by have := blk_lt Q0.out; omega), fun e => by have := (srow_own M0.out b e.symm).2.2; omega⟩) (fun g hg => ((krow_own R0.out) g hg).2.2))
        have S101 := hid s3
        have K101 := hid (blk_but K0.out b3 (by omega))
        have Q101 := hid (blk_but Q0.out b3 (by omega))
        have R101 := hid (krow_but R0.out b3 (fun h => C.np h.1))
        have B101 := hid (B0.out.trans (ButLo.of b3 (by have := B0.out.size; omega)))
        have M101 := hid (srow_but M0.out b3 C.np)
        have hz101 : w0.heap.size ≤ w101.heap.size := b3.size
        clear s3 b3 n3 S0 K0 Q0 R0 B0 M0
        unfold ndv
        simp only
        refine HK.out.out _ _ ?_ (fun hHeld => ?_)
        · exact (blk_cell Q101.out 0).trans rfl
        clear HK K
        refine wpAnyH_ready (rs := [5]) (by kernel_rfl) (by simp) ?_
        refine AllReadyH.cons rfl (fun K hK => ?_) AllReadyH.nil
        · have HK := hid hK
          clear hK
          go_simp
          have AZ := (Below.refl _ w101).alloc (Nat.le_refl _) (.cells #[.int .i64 0, .int .i64 0, .int .i64 0, .string ⟨#[]⟩, .slice none 0 0, .slice none 0 0, .int .i64 0] 26)
          have Y102 := hid (blk_new w101 26 #[.int .i64 0, .int .i64 0, .int .i64 0, .string ⟨#[]⟩, .slice none 0 0, .slice none 0 0, .int .i64 0])
          have S102 := hid (S101.out.on AZ)
          have K102 := hid (blk_on K101.out AZ)
          have Q102 := hid (blk_on Q101.out AZ)
          have R102 := hid (krow_below R101.out AZ)
          have B102 := hid (B101.out.trans (ButLo.of (But.of (P := P) AZ) (by have := B101.out.size; omega)))
          have N102 := hid (ndW_els N101.out AZ)
          have M102 := hid (srow_below M101.out AZ)
          obtain ⟨w102, hw102⟩ : ∃ w102, w101.alloc (.cells #[.int .i64 0, .int .i64 0, .int .i64 0, .string ⟨#[]⟩, .slice none 0 0, .slice none 0 0, .int .i64 0] 26) = w102 := ⟨_, rfl⟩
          rw [hw102] at AZ Y102 S102 K102 Q102 R102 B102 M102 N102 ⊢
          have hz102 : w102.heap.size = w101.heap.size + 1 := by rw [← hw102]; simp
          refine HK.out.out _ _ ?_ (fun hHeld => ?_)
          · exact (blk_cell Q102.out 0).trans rfl
          clear HK K AZ hw102 S101 K101 Q101 R101 B101 M101 N101
          refine wpAnyH_ready (rs := [6]) (by kernel_rfl) (by simp) ?_
          refine AllReadyH.cons rfl (fun K hK => ?_) AllReadyH.nil
          have HK := hid hK
          clear hK
          obtain ⟨cs, hown, hr, hg⟩ := R102.out
          obtain ⟨i0, hi, hz0, hz1, hz2⟩ := infoN
          have hsz := B102.out.size
          refine step_append_lies _ rfl _ _ 24 rfl lo 26 i0 _ 7 96 underN hi hz0 hz1 hz2 rfl (by decide) (.slice ao ks.length cap) _ cs (by rfl) hown ⟨w101.heap.size, 0, none⟩ 1 1 zl (by rfl) rfl (zl_cells Y102.out) zl_one (by decide) (by unfold maxLen; omega) (by omega) (by omega) _ rfl ?_
          intro g cap2 w103 hown' hgrow hat hlt
          have AP := hid (nput_at hown' hgrow hat R102.out (by omega) (blk_lt K102.out) (blk_lt Q102.out) (fun h => C.nk h.1) (fun h => C.nq h.1))
          have S103 := hid (pst_low S102.out (grown_low hgrow (by omega) (fun k hk => by have := ((krow_own R102.out) k hk).2.1; omega)))
          have K103 := hid (blk_grown K102.out hgrow (fun e => C.nk (((krow_own R102.out) _ e.symm).1.1)))
          have Q103 := hid (blk_grown Q102.out hgrow (fun e => C.nq (((krow_own R102.out) _ e.symm).1.1)))
          have B103 := hid (B102.out.trans (ButLo.grown hgrow (by omega) (fun k hk => ((krow_own R102.out) k hk).2.1)))
          have M103 := hid (srow_grown M102.out hgrow (fun b hb e => ((krow_own R102.out) b e.symm).1.2 hb.symm))
          have AP2 := hid (show ∀ b, nv.ownBlock = some b → b ≠ g from fun b hb e => by rcases hat with h | h; exact ((krow_own R102.out) g h).1.2 (e ▸ hb.symm); have := (srow_own M102.out b hb).2.2; omega)
          have PU := hid (nput_row (x := x) (nv := .slice f1 x.names.length g1) (kv := .slice f2 x.kids.length g2) hown' hgrow hat hr hg N102.out (fun k hk => ⟨C.up k (by have := blk_lt K102.out; omega) (by have := blk_lt Q102.out; omega), fun e => by have := (srow_own M102.out k e.symm).2.2; omega⟩) (by omega))
          obtain ⟨cur, hcur, hcs⟩ := AP.out.blk
          obtain ⟨⟨_, e0⟩, ⟨_, e1⟩, ⟨_, e2⟩, ⟨_, e3⟩, ⟨_, e4⟩, ⟨_, e5⟩, ⟨_, e6⟩⟩ := cellsN hcur hcs
          obtain ⟨u0, u1, u2, u3, u4, u5, u6⟩ := freesN hcur ks.length
          have hgl : lo ≤ g := AP.out.lo
          have hgk : g ≠ nb := AP.out.nk
          have hgp : g ≠ pb := AP.out.nq
          have hqk : pb ≠ nb := Ne.symm C.ne
          have hidx : (ks.length : Int) < (ks.length : Int) + 1 := by omega
          clear hown hr hg hi hz0 hz1 hz2 i0 hown' hgrow hat hlt Y102 R102 N102 S102 K102 Q102 B102 M102
          refine HK.out.out _ _ ?_ (fun hHeld => ?_)
          · exact (blk_cell Q103.out 0).trans rfl
          clear HK K
          refine wpAnyH_take (i := 7) (v := ?vk35) rfl (by kernel_rfl) (by kernel_rfl) (by kernel_rfl) (fun _ _ _ h => h) (Or.inl ⟨by rfl, ?hyk35⟩) (by assumption) ?_
          case hyk35 => (intro w hSw; go_simp <;> (try with_reducible rfl))
          simp only [Act.put, List.setIfInBounds_toArray, List.set_cons_zero, List.set_cons_succ, List.getElem_toArray, List.getElem_cons_succ, List.getElem_cons_zero]
          refine wpAnyH_take (i := 9) (v := ?vk36) rfl (by kernel_rfl) (by kernel_rfl) (by kernel_rfl) (fun _ _ _ h => h) (Or.inl ⟨by rfl, ?hyk36⟩) (by assumption) ?_
          case hyk36 => (intro w hSw; go_simp <;> (try with_reducible rfl))
          simp only [Act.put, List.setIfInBounds_toArray, List.set_cons_zero, List.set_cons_succ, List.getElem_toArray, List.getElem_cons_succ, List.getElem_cons_zero]
          refine wpAnyH_ready (rs := [8, 10]) (by kernel_rfl) (by simp) ?_
          refine AllReadyH.cons rfl (fun K hK => ?_) (AllReadyH.cons rfl (fun K hK => ?_) AllReadyH.nil)
          · have HK := hid hK
            clear hK
            go_simp
            refine HK.out.out _ _ ?_ (fun hHeld => ?_)
            · exact (put7n_cell (g := g) (i := ks.length * 7) (blk_cell Q103.out 0) (Ne.symm hgp) (.int .i64 x.kind) (.int .i64 x.op) (.int .i64 x.num) (.string x.str) (.slice f1 x.names.length g1) (.slice f2 x.kids.length g2) (.int .i64 x.pl)).trans rfl
            clear HK K
            refine wpAnyH_ready (rs := [10]) (by kernel_rfl) (by simp) ?_
            refine AllReadyH.cons rfl (fun K hK => ?_) AllReadyH.nil
            have HK := hid hK
            clear hK
            have k0 := put7n_cell (g := g) (i := ks.length * 7) (blk_cell K103.out 5) (Ne.symm hgk) (.int .i64 x.kind) (.int .i64 x.op) (.int .i64 x.num) (.string x.str) (.slice f1 x.names.length g1) (.slice f2 x.kids.length g2) (.int .i64 x.pl)
            unfold put7n at k0
            simp at k0
            have z0 := put7n_free (g := g) (i := ks.length * 7) (blk_free K103.out 5) (Ne.symm hgk) (.int .i64 x.kind) (.int .i64 x.op) (.int .i64 x.num) (.string x.str) (.slice f1 x.names.length g1) (.slice f2 x.kids.length g2) (.int .i64 x.pl)
            unfold put7n at z0
            go_simp
            refine HK.out.out _ _ ?_ (fun hHeld => ?_)
            · exact ((World.cell?_of_block (w := put7n w103 g (ks.length * 7) (.int .i64 x.kind) (.int .i64 x.op) (.int .i64 x.num) (.string x.str) (.slice f1 x.names.length g1) (.slice f2 x.kids.length g2) (.int .i64 x.pl)) (Below.heap_setCell _ _ _ _ hqk)).trans (put7n_cell (g := g) (i := ks.length * 7) (blk_cell Q103.out 0) (Ne.symm hgp) (.int .i64 x.kind) (.int .i64 x.op) (.int .i64 x.num) (.string x.str) (.slice f1 x.names.length g1) (.slice f2 x.kids.length g2) (.int .i64 x.pl))).trans rfl
            clear HK K
            refine wpAnyH_done (by kernel_rfl) ?_ _
            have WR := wrote_1 (n := ks.length) (j := 5) (V := .slice (some ⟨g, 0, none⟩) (ks.length + 1) cap2) hcur K103.out hgk (.int .i64 x.kind) (.int .i64 x.op) (.int .i64 x.num) (.string x.str) (.slice f1 x.names.length g1) (.slice f2 x.kids.length g2) (.int .i64 x.pl)
            unfold put7n at WR
            have hkk := WR.hk
            simp at hkk
            go_end0
            exact ⟨rfl, ⟨_, _, hkk, (WR.rest pb (Ne.symm hgp) (Ne.symm C.ne)).trans Q103.out, srow_keep M103.out (fun b hb => WR.rest b (fun e => AP2.out b hb e) (fun e => C.nk (e ▸ (srow_own M103.out b hb).1))), PU.out _ cur hcur WR.hg (by rw [WR.size]; omega) (fun k hk hk2 hk3 => WR.rest k hk3 (fun e => C.nk (e ▸ hk.1)))⟩, pst_low S103.out (WR.below (by omega) (by omega)), B103.out.trans (WR.butlo hgl C.k)⟩
          · have HK := hid hK
            clear hK
            have k0 := blk_cell K103.out 5
            have z0 := blk_free K103.out 5
            simp at k0
            go_simp
            refine HK.out.out _ _ ?_ (fun hHeld => ?_)
            · exact ((World.cell?_of_block (w := w103) (Below.heap_setCell _ _ _ _ hqk)).trans (blk_cell Q103.out 0)).trans rfl
            clear HK K
            refine wpAnyH_ready (rs := [8]) (by kernel_rfl) (by simp) ?_
            refine AllReadyH.cons rfl (fun K hK => ?_) AllReadyH.nil
            have HK := hid hK
            clear hK
            have hcur2 := (show Blk g 26 cur (w103.setCell ⟨nb, 5, none⟩ (.slice (some ⟨g, 0, none⟩) (ks.length + 1) cap2)) from (Below.heap_setCell _ _ _ _ hgk).trans hcur)
            obtain ⟨⟨_, e0⟩, ⟨_, e1⟩, ⟨_, e2⟩, ⟨_, e3⟩, ⟨_, e4⟩, ⟨_, e5⟩, ⟨_, e6⟩⟩ := cellsN hcur2 hcs
            obtain ⟨u0, u1, u2, u3, u4, u5, u6⟩ := freesN hcur2 ks.length
            go_simp
            refine HK.out.out _ _ ?_ (fun hHeld => ?_)
            · exact (put7n_cell (g := g) (i := ks.length * 7) ((World.cell?_of_block (w := w103) (Below.heap_setCell _ _ _ _ hqk)).trans (blk_cell Q103.out 0)) (Ne.symm hgp) (.int .i64 x.kind) (.int .i64 x.op) (.int .i64 x.num) (.string x.str) (.slice f1 x.names.length g1) (.slice f2 x.kids.length g2) (.int .i64 x.pl)).trans rfl
            clear HK K
            refine wpAnyH_done (by kernel_rfl) ?_ _
            have WR := wrote_2 (n := ks.length) (j := 5) (V := .slice (some ⟨g, 0, none⟩) (ks.length + 1) cap2) hcur K103.out hgk (.int .i64 x.kind) (.int .i64 x.op) (.int .i64 x.num) (.string x.str) (.slice f1 x.names.length g1) (.slice f2 x.kids.length g2) (.int .i64 x.pl)
            unfold put7n at WR
            have hkk := WR.hk
            simp at hkk
            go_end0
            exact ⟨rfl, ⟨_, _, hkk, (WR.rest pb (Ne.symm hgp) (Ne.symm C.ne)).trans Q103.out, srow_keep M103.out (fun b hb => WR.rest b (fun e => AP2.out b hb e) (fun e => C.nk (e ▸ (srow_own M103.out b hb).1))), PU.out _ cur hcur WR.hg (by rw [WR.size]; omega) (fun k hk hk2 hk3 => WR.rest k hk3 (fun e => C.nk (e ▸ hk.1)))⟩, pst_low S103.out (WR.below (by omega) (by omega)), B103.out.trans (WR.butlo hgl C.k)⟩
      · have HK := hid hK
        clear hK
        go_simp
        have AZ := (Below.refl _ w0).alloc (Nat.le_refl _) (.cells #[.int .i64 0, .int .i64 0, .int .i64 0, .string ⟨#[]⟩, .slice none 0 0, .slice none 0 0, .int .i64 0] 26)
        have Y104 := hid (blk_new w0 26 #[.int .i64 0, .int .i64 0, .int .i64 0, .string ⟨#[]⟩, .slice none 0 0, .slice none 0 0, .int .i64 0])
        have S104 := hid (S0.out.on AZ)
        have K104 := hid (blk_on K0.out AZ)
        have Q104 := hid (blk_on Q0.out AZ)
        have R104 := hid (krow_below R0.out AZ)
        have B104 := hid (B0.out.trans (ButLo.of (But.of (P := P) AZ) (by have := B0.out.size; omega)))
        have M104 := hid (srow_below M0.out AZ)
        obtain ⟨w104, hw104⟩ : ∃ w104, w0.alloc (.cells #[.int .i64 0, .int .i64 0, .int .i64 0, .string ⟨#[]⟩, .slice none 0 0, .slice none 0 0, .int .i64 0] 26) = w104 := ⟨_, rfl⟩
        rw [hw104] at AZ Y104 S104 K104 Q104 R104 B104 M104 ⊢
        have hz104 : w104.heap.size = w0.heap.size + 1 := by rw [← hw104]; simp
        refine HK.out.out _ _ ?_ (fun hHeld => ?_)
        · exact (blk_cell Q104.out 0).trans rfl
        clear HK K AZ hw104 S0 K0 Q0 R0 B0 M0
        refine wpAnyH_ready (rs := [3]) (by kernel_rfl) (by simp) ?_
        refine AllReadyH.cons rfl (fun K hK => ?_) AllReadyH.nil
        · have HK := hid hK
          clear hK
          go_simp
          refine (HC.out _ S104).mono ?_
          rintro e3 w105 ⟨⟨nv3, kv3, rfl, n3⟩, s3, b3⟩
          obtain ⟨f1, g1, f2, g2, rfl, rfl⟩ := ndR_shape n3
          have N105 := hid (ndR_els (ok := (OkN ok nv)) (v := (.slice ao ks.length cap)) n3 (fun b hb => ⟨C.up b (by have := blk_lt K104.out; omega) (by have := blk_lt Q104.out; omega), fun e => by have := (srow_own M104.out b e.symm).2.2; omega⟩) (fun g hg => ((krow_own R104.out) g hg).2.2))
          have S105 := hid s3
          have K105 := hid (blk_but K104.out b3 (by omega))
          have Q105 := hid (blk_but Q104.out b3 (by omega))
          have R105 := hid (krow_but R104.out b3 (fun h => C.np h.1))
          have B105 := hid (B104.out.trans (ButLo.of b3 (by have := B104.out.size; omega)))
          have M105 := hid (srow_but M104.out b3 C.np)
          have Y105 := hid (blk_but Y104.out b3 (by have := B104.out.size; omega))
          have hz105 : w104.heap.size ≤ w105.heap.size := b3.size
          clear s3 b3 n3 S104 K104 Q104 R104 B104 M104 Y104
          unfold ndv
          simp only
          refine HK.out.out _ _ ?_ (fun hHeld => ?_)
          · exact (blk_cell Q105.out 0).trans rfl
          clear HK K
          refine wpAnyH_ready (rs := [6]) (by kernel_rfl) (by simp) ?_
          refine AllReadyH.cons rfl (fun K hK => ?_) AllReadyH.nil
          have HK := hid hK
          clear hK
          obtain ⟨cs, hown, hr, hg⟩ := R105.out
          obtain ⟨i0, hi, hz0, hz1, hz2⟩ := infoN
          have hsz := B105.out.size
          refine step_append_lies _ rfl _ _ 24 rfl lo 26 i0 _ 7 96 underN hi hz0 hz1 hz2 rfl (by decide) (.slice ao ks.length cap) _ cs (by rfl) hown ⟨w0.heap.size, 0, none⟩ 1 1 zl (by rfl) rfl (zl_cells Y105.out) zl_one (by decide) (by unfold maxLen; omega) (by omega) (by omega) _ rfl ?_
          intro g cap2 w106 hown' hgrow hat hlt
          have AP := hid (nput_at hown' hgrow hat R105.out (by omega) (blk_lt K105.out) (blk_lt Q105.out) (fun h => C.nk h.1) (fun h => C.nq h.1))
          have S106 := hid (pst_low S105.out (grown_low hgrow (by omega) (fun k hk => by have := ((krow_own R105.out) k hk).2.1; omega)))
          have K106 := hid (blk_grown K105.out hgrow (fun e => C.nk (((krow_own R105.out) _ e.symm).1.1)))
          have Q106 := hid (blk_grown Q105.out hgrow (fun e => C.nq (((krow_own R105.out) _ e.symm).1.1)))
          have B106 := hid (B105.out.trans (ButLo.grown hgrow (by omega) (fun k hk => ((krow_own R105.out) k hk).2.1)))
          have M106 := hid (srow_grown M105.out hgrow (fun b hb e => ((krow_own R105.out) b e.symm).1.2 hb.symm))
          have AP2 := hid (show ∀ b, nv.ownBlock = some b → b ≠ g from fun b hb e => by rcases hat with h | h; exact ((krow_own R105.out) g h).1.2 (e ▸ hb.symm); have := (srow_own M105.out b hb).2.2; omega)
          have PU := hid (nput_row (x := x) (nv := .slice f1 x.names.length g1) (kv := .slice f2 x.kids.length g2) hown' hgrow hat hr hg N105.out (fun k hk => ⟨C.up k (by have := blk_lt K105.out; omega) (by have := blk_lt Q105.out; omega), fun e => by have := (srow_own M105.out k e.symm).2.2; omega⟩) (by omega))
          obtain ⟨cur, hcur, hcs⟩ := AP.out.blk
          obtain ⟨⟨_, e0⟩, ⟨_, e1⟩, ⟨_, e2⟩, ⟨_, e3⟩, ⟨_, e4⟩, ⟨_, e5⟩, ⟨_, e6⟩⟩ := cellsN hcur hcs
          obtain ⟨u0, u1, u2, u3, u4, u5, u6⟩ := freesN hcur ks.length
          have hgl : lo ≤ g := AP.out.lo
          have hgk : g ≠ nb := AP.out.nk
          have hgp : g ≠ pb := AP.out.nq
          have hqk : pb ≠ nb := Ne.symm C.ne
          have hidx : (ks.length : Int) < (ks.length : Int) + 1 := by omega
          clear hown hr hg hi hz0 hz1 hz2 i0 hown' hgrow hat hlt Y105 R105 N105 S105 K105 Q105 B105 M105
          refine HK.out.out _ _ ?_ (fun hHeld => ?_)
          · exact (blk_cell Q106.out 0).trans rfl
          clear HK K
          refine wpAnyH_take (i := 7) (v := ?vk37) rfl (by kernel_rfl) (by kernel_rfl) (by kernel_rfl) (fun _ _ _ h => h) (Or.inl ⟨by rfl, ?hyk37⟩) (by assumption) ?_
          case hyk37 => (intro w hSw; go_simp <;> (try with_reducible rfl))
          simp only [Act.put, List.setIfInBounds_toArray, List.set_cons_zero, List.set_cons_succ, List.getElem_toArray, List.getElem_cons_succ, List.getElem_cons_zero]
          refine wpAnyH_take (i := 9) (v := ?vk38) rfl (by kernel_rfl) (by kernel_rfl) (by kernel_rfl) (fun _ _ _ h => h) (Or.inl ⟨by rfl, ?hyk38⟩) (by assumption) ?_
          case hyk38 => (intro w hSw; go_simp <;> (try with_reducible rfl))
          simp only [Act.put, List.setIfInBounds_toArray, List.set_cons_zero, List.set_cons_succ, List.getElem_toArray, List.getElem_cons_succ, List.getElem_cons_zero]
          refine wpAnyH_ready (rs := [8, 10]) (by kernel_rfl) (by simp) ?_
          refine AllReadyH.cons rfl (fun K hK => ?_) (AllReadyH.cons rfl (fun K hK => ?_) AllReadyH.nil)
          · have HK := hid hK
            clear hK
            go_simp
            refine HK.out.out _ _ ?_ (fun hHeld => ?_)
            · exact (put7n_cell (g := g) (i := ks.length * 7) (blk_cell Q106.out 0) (Ne.symm hgp) (.int .i64 x.kind) (.int .i64 x.op) (.int .i64 x.num) (.string x.str) (.slice f1 x.names.length g1) (.slice f2 x.kids.length g2) (.int .i64 x.pl)).trans rfl
            clear HK K
            refine wpAnyH_ready (rs := [10]) (by kernel_rfl) (by simp) ?_
            refine AllReadyH.cons rfl (fun K hK => ?_) AllReadyH.nil
            have HK := hid hK
            clear hK
            have k0 := put7n_cell (g := g) (i := ks.length * 7) (blk_cell K106.out 5) (Ne.symm hgk) (.int .i64 x.kind) (.int .i64 x.op) (.int .i64 x.num) (.string x.str) (.slice f1 x.names.length g1) (.slice f2 x.kids.length g2) (.int .i64 x.pl)
            unfold put7n at k0
            simp at k0
            have z0 := put7n_free (g := g) (i := ks.length * 7) (blk_free K106.out 5) (Ne.symm hgk) (.int .i64 x.kind) (.int .i64 x.op) (.int .i64 x.num) (.string x.str) (.slice f1 x.names.length g1) (.slice f2 x.kids.length g2) (.int .i64 x.pl)
            unfold put7n at z0
            go_simp
            refine HK.out.out _ _ ?_ (fun hHeld => ?_)
            · exact ((World.cell?_of_block (w := put7n w106 g (ks.length * 7) (.int .i64 x.kind) (.int .i64 x.op) (.int .i64 x.num) (.string x.str) (.slice f1 x.names.length g1) (.slice f2 x.kids.length g2) (.int .i64 x.pl)) (Below.heap_setCell _ _ _ _ hqk)).trans (put7n_cell (g := g) (i := ks.length * 7) (blk_cell Q106.out 0) (Ne.symm hgp) (.int .i64 x.kind) (.int .i64 x.op) (.int .i64 x.num) (.string x.str) (.slice f1 x.names.length g1) (.slice f2 x.kids.length g2) (.int .i64 x.pl))).trans rfl
            clear HK K
            refine wpAnyH_done (by kernel_rfl) ?_ _
            have WR := wrote_1 (n := ks.length) (j := 5) (V := .slice (some ⟨g, 0, none⟩) (ks.length + 1) cap2) hcur K106.out hgk (.int .i64 x.kind) (.int .i64 x.op) (.int .i64 x.num) (.string x.str) (.slice f1 x.names.length g1) (.slice f2 x.kids.length g2) (.int .i64 x.pl)
            unfold put7n at WR
            have hkk := WR.hk
            simp at hkk
            go_end0
            exact ⟨rfl, ⟨_, _, hkk, (WR.rest pb (Ne.symm hgp) (Ne.symm C.ne)).trans Q106.out, srow_keep M106.out (fun b hb => WR.rest b (fun e => AP2.out b hb e) (fun e => C.nk (e ▸ (srow_own M106.out b hb).1))), PU.out _ cur hcur WR.hg (by rw [WR.size]; omega) (fun k hk hk2 hk3 => WR.rest k hk3 (fun e => C.nk (e ▸ hk.1)))⟩, pst_low S106.out (WR.below (by omega) (by omega)), B106.out.trans (WR.butlo hgl C.k)⟩
          · have HK := hid hK
            clear hK
            have k0 := blk_cell K106.out 5
            have z0 := blk_free K106.out 5
            simp at k0
            go_simp
            refine HK.out.out _ _ ?_ (fun hHeld => ?_)
            · exact ((World.cell?_of_block (w := w106) (Below.heap_setCell _ _ _ _ hqk)).trans (blk_cell Q106.out 0)).trans rfl
            clear HK K
            refine wpAnyH_ready (rs := [8]) (by kernel_rfl) (by simp) ?_
            refine AllReadyH.cons rfl (fun K hK => ?_) AllReadyH.nil
            have HK := hid hK
            clear hK
            have hcur2 := (show Blk g 26 cur (w106.setCell ⟨nb, 5, none⟩ (.slice (some ⟨g, 0, none⟩) (ks.length + 1) cap2)) from (Below.heap_setCell _ _ _ _ hgk).trans hcur)
            obtain ⟨⟨_, e0⟩, ⟨_, e1⟩, ⟨_, e2⟩, ⟨_, e3⟩, ⟨_, e4⟩, ⟨_, e5⟩, ⟨_, e6⟩⟩ := cellsN hcur2 hcs
            obtain ⟨u0, u1, u2, u3, u4, u5, u6⟩ := freesN hcur2 ks.length
            go_simp
            refine HK.out.out _ _ ?_ (fun hHeld => ?_)
            · exact (put7n_cell (g := g) (i := ks.length * 7) ((World.cell?_of_block (w := w106) (Below.heap_setCell _ _ _ _ hqk)).trans (blk_cell Q106.out 0)) (Ne.symm hgp) (.int .i64 x.kind) (.int .i64 x.op) (.int .i64 x.num) (.string x.str) (.slice f1 x.names.length g1) (.slice f2 x.kids.length g2) (.int .i64 x.pl)).trans rfl
            clear HK K
            refine wpAnyH_done (by kernel_rfl) ?_ _
            have WR := wrote_2 (n := ks.length) (j := 5) (V := .slice (some ⟨g, 0, none⟩) (ks.length + 1) cap2) hcur K106.out hgk (.int .i64 x.kind) (.int .i64 x.op) (.int .i64 x.num) (.string x.str) (.slice f1 x.names.length g1) (.slice f2 x.kids.length g2) (.int .i64 x.pl)
            unfold put7n at WR
            have hkk := WR.hk
            simp at hkk
            go_end0
            exact ⟨rfl, ⟨_, _, hkk, (WR.rest pb (Ne.symm hgp) (Ne.symm C.ne)).trans Q106.out, srow_keep M106.out (fun b hb => WR.rest b (fun e => AP2.out b hb e) (fun e => C.nk (e ▸ (srow_own M106.out b hb).1))), PU.out _ cur hcur WR.hg (by rw [WR.size]; omega) (fun k hk hk2 hk3 => WR.rest k hk3 (fun e => C.nk (e ▸ hk.1)))⟩, pst_low S106.out (WR.below (by omega) (by omega)), B106.out.trans (WR.butlo hgl C.k)⟩
    · have HK := hid hK
      clear hK
      go_simp
      refine (HC.out _ S0).mono ?_
      rintro e3 w107 ⟨⟨nv3, kv3, rfl, n3⟩, s3, b3⟩
      obtain ⟨f1, g1, f2, g2, rfl, rfl⟩ := ndR_shape n3
      have N107 := hid (ndR_els (ok := (OkN ok nv)) (v := (.slice ao ks.length cap)) n3 (fun b hb => ⟨C.up b (by have := blk_lt K0.out; omega) (by have := blk_lt Q0.out; omega), fun e => by have := (srow_own M0.out b e.symm).2.2; omega⟩) (fun g hg => ((krow_own R0.out) g hg).2.2))
      have S107 := hid s3
      have K107 := hid (blk_but K0.out b3 (by omega))
      have Q107 := hid (blk_but Q0.out b3 (by omega))
      have R107 := hid (krow_but R0.out b3 (fun h => C.np h.1))
      have B107 := hid (B0.out.trans (ButLo.of b3 (by have := B0.out.size; omega)))
      have M107 := hid (srow_but M0.out b3 C.np)
      have hz107 : w0.heap.size ≤ w107.heap.size := b3.size
      clear s3 b3 n3 S0 K0 Q0 R0 B0 M0
      unfold ndv
      simp only
      refine HK.out.out _ _ ?_ (fun hHeld => ?_)
      · exact (blk_cell Q107.out 0).trans rfl
      clear HK K
      refine wpAnyH_ready (rs := [1, 5]) (by kernel_rfl) (by simp) ?_
      refine AllReadyH.cons rfl (fun K hK => ?_) (AllReadyH.cons rfl (fun K hK => ?_) AllReadyH.nil)
      · have HK := hid hK
        clear hK
        have k0 := blk_cell K107.out 5
        simp at k0
        go_simp
        refine HK.out.out _ _ ?_ (fun hHeld => ?_)
        · exact (blk_cell Q107.out 0).trans rfl
        clear HK K k0
        refine wpAnyH_take (i := 4) (v := ?vk39) rfl (by kernel_rfl) (by kernel_rfl) (by kernel_rfl) (fun _ _ _ h => h) (Or.inl ⟨by rfl, ?hyk39⟩) (by assumption) ?_
        case hyk39 => (intro w hSw; go_simp <;> (try with_reducible rfl))
        simp only [Act.put, List.setIfInBounds_toArray, List.set_cons_zero, List.set_cons_succ, List.getElem_toArray, List.getElem_cons_succ, List.getElem_cons_zero]
        refine wpAnyH_ready (rs := [5]) (by kernel_rfl) (by simp) ?_
        refine AllReadyH.cons rfl (fun K hK => ?_) AllReadyH.nil
        · have HK := hid hK
          clear hK
          go_simp
          have AZ := (Below.refl _ w107).alloc (Nat.le_refl _) (.cells #[.int .i64 0, .int .i64 0, .int .i64 0, .string ⟨#[]⟩, .slice none 0 0, .slice none 0 0, .int .i64 0] 26)
          have Y108 := hid (blk_new w107 26 #[.int .i64 0, .int .i64 0, .int .i64 0, .string ⟨#[]⟩, .slice none 0 0, .slice none 0 0, .int .i64 0])
          have S108 := hid (S107.out.on AZ)
          have K108 := hid (blk_on K107.out AZ)
          have Q108 := hid (blk_on Q107.out AZ)
          have R108 := hid (krow_below R107.out AZ)
          have B108 := hid (B107.out.trans (ButLo.of (But.of (P := P) AZ) (by have := B107.out.size; omega)))
          have N108 := hid (ndW_els N107.out AZ)
          have M108 := hid (srow_below M107.out AZ)
          obtain ⟨w108, hw108⟩ : ∃ w108, w107.alloc (.cells #[.int .i64 0, .int .i64 0, .int .i64 0, .string ⟨#[]⟩, .slice none 0 0, .slice none 0 0, .int .i64 0] 26) = w108 := ⟨_, rfl⟩
          rw [hw108] at AZ Y108 S108 K108 Q108 R108 B108 M108 N108 ⊢
          have hz108 : w108.heap.size = w107.heap.size + 1 := by rw [← hw108]; simp
          refine HK.out.out _ _ ?_ (fun hHeld => ?_)
          · exact (blk_cell Q108.out 0).trans rfl
          clear HK K AZ hw108 S107 K107 Q107 R107 B107 M107 N107
          refine wpAnyH_ready (rs := [6]) (by kernel_rfl) (by simp) ?_
          refine AllReadyH.cons rfl (fun K hK => ?_) AllReadyH.nil
          have HK := hid hK
          clear hK
          obtain ⟨cs, hown, hr, hg⟩ := R108.out
          obtain ⟨i0, hi, hz0, hz1, hz2⟩ := infoN
          have hsz := B108.out.size
          refine step_append_lies _ rfl _ _ 24 rfl lo 26 i0 _ 7 96 underN hi hz0 hz1 hz2 rfl (by decide) (.slice ao ks.length cap) _ cs (by rfl) hown ⟨w107.heap.size, 0, none⟩ 1 1 zl (by rfl) rfl (zl_cells Y108.out) zl_one (by decide) (by unfold maxLen; omega) (by omega) (by omega) _ rfl ?_
          intro g cap2 w109 hown' hgrow hat hlt
          have AP := hid (nput_at hown' hgrow hat R108.out (by omega) (blk_lt K108.out) (blk_lt Q108.out) (fun h => C.nk h.1) (fun h => C.nq h.1))
          have S109 := hid (pst_low S108.out (grown_low hgrow (by omega) (fun k hk => by have := ((krow_own R108.out) k hk).2.1; omega)))
          have K109 := hid (blk_grown K108.out hgrow (fun e => C.nk (((krow_own R108.out) _ e.symm).1.1)))
          have Q109 := hid (blk_grown Q108.out hgrow (fun e => C.nq (((krow_own R108.out) _ e.symm).1.1)))
          have B109 := hid (B108.out.trans (ButLo.grown hgrow (by omega) (fun k hk => ((krow_own R108.out) k hk).2.1)))
          have M109 := hid (srow_grown M108.out hgrow (fun b hb e => ((krow_own R108.out) b e.symm).1.2 hb.symm))
          have AP2 := hid (show ∀ b, nv.ownBlock = some b → b ≠ g from fun b hb e => by rcases hat with h | h; exact ((krow_own R108.out) g h).1.2 (e ▸ hb.symm); have := (srow_own M108.out b hb).2.2; omega)
          have PU := hid (nput_row (x := x) (nv := .slice f1 x.names.length g1) (kv := .slice f2 x.kids.length g2) hown' hgrow hat hr hg N108.out (fun k hk => ⟨C.up k (by have := blk_lt K108.out; omega) (by have := blk_lt Q108.out; omega), fun e => by have := (srow_own M108.out k e.symm).2.2; omega⟩) (by omega))
          obtain ⟨cur, hcur, hcs⟩ := AP.out.blk
          obtain ⟨⟨_, e0⟩, ⟨_, e1⟩, ⟨_, e2⟩, ⟨_, e3⟩, ⟨_, e4⟩, ⟨_, e5⟩, ⟨_, e6⟩⟩ := cellsN hcur hcs
          obtain ⟨u0, u1, u2, u3, u4, u5, u6⟩ := freesN hcur ks.length
          have hgl : lo ≤ g := AP.out.lo
          have hgk : g ≠ nb := AP.out.nk
          have hgp : g ≠ pb := AP.out.nq
          have hqk : pb ≠ nb := Ne.symm C.ne
          have hidx : (ks.length : Int) < (ks.length : Int) + 1 := by omega
          clear hown hr hg hi hz0 hz1 hz2 i0 hown' hgrow hat hlt Y108 R108 N108 S108 K108 Q108 B108 M108
          refine HK.out.out _ _ ?_ (fun hHeld => ?_)
          · exact (blk_cell Q109.out 0).trans rfl
          clear HK K
          refine wpAnyH_take (i := 7) (v := ?vk40) rfl (by kernel_rfl) (by kernel_rfl) (by kernel_rfl) (fun _ _ _ h => h) (Or.inl ⟨by rfl, ?hyk40⟩) (by assumption) ?_
          case hyk40 => (intro w hSw; go_simp <;> (try with_reducible rfl))
          simp only [Act.put, List.setIfInBounds_toArray, List.set_cons_zero, List.set_cons_succ, List.getElem_toArray, List.getElem_cons_succ, List.getElem_cons_zero]
          refine wpAnyH_take (i := 9) (v := ?vk41) rfl (by kernel_rfl) (by kernel_rfl) (by kernel_rfl) (fun _ _ _ h => h) (Or.inl ⟨by rfl, ?hyk41⟩) (by assumption) ?_
          case hyk41 => (intro w hSw; go_simp <;> (try with_reducible rfl))
          simp only [Act.put, List.setIfInBounds_toArray, List.set_cons_zero, List.set_cons_succ, List.getElem_toArray, List.getElem_cons_succ, List.getElem_cons_zero]
          refine wpAnyH_ready (rs := [8, 10]) (by kernel_rfl) (by simp) ?_
          refine AllReadyH.cons rfl (fun K hK => ?_) (AllReadyH.cons rfl (fun K hK => ?_) AllReadyH.nil)
          · have HK := hid hK
            clear hK
            go_simp
            refine HK.out.out _ _ ?_ (fun hHeld => ?_)
            · exact (put7n_cell (g := g) (i := ks.length * 7) (blk_cell Q109.out 0) (Ne.symm hgp) (.int .i64 x.kind) (.int .i64 x.op) (.int .i64 x.num) (.string x.str) (.slice f1 x.names.length g1) (.slice f2 x.kids.length g2) (.int .i64 x.pl)).trans rfl
            clear HK K
            refine wpAnyH_ready (rs := [10]) (by kernel_rfl) (by simp) ?_
            refine AllReadyH.cons rfl (fun K hK => ?_) AllReadyH.nil
            have HK := hid hK
            clear hK
            have k0 := put7n_cell (g := g) (i := ks.length * 7) (blk_cell K109.out 5) (Ne.symm hgk) (.int .i64 x.kind) (.int .i64 x.op) (.int .i64 x.num) (.string x.str) (.slice f1 x.names.length g1) (.slice f2 x.kids.length g2) (.int .i64 x.pl)
            unfold put7n at k0
            simp at k0
            have z0 := put7n_free (g := g) (i := ks.length * 7) (blk_free K109.out 5) (Ne.symm hgk) (.int .i64 x.kind) (.int .i64 x.op) (.int .i64 x.num) (.string x.str) (.slice f1 x.names.length g1) (.slice f2 x.kids.length g2) (.int .i64 x.pl)
            unfold put7n at z0
            go_simp
            refine HK.out.out _ _ ?_ (fun hHeld => ?_)
            · exact ((World.cell?_of_block (w := put7n w109 g (ks.length * 7) (.int .i64 x.kind) (.int .i64 x.op) (.int .i64 x.num) (.string x.str) (.slice f1 x.names.length g1) (.slice f2 x.kids.length g2) (.int .i64 x.pl)) (Below.heap_setCell _ _ _ _ hqk)).trans (put7n_cell (g := g) (i := ks.length * 7) (blk_cell Q109.out 0) (Ne.symm hgp) (.int .i64 x.kind) (.int .i64 x.op) (.int .i64 x.num) (.string x.str) (.slice f1 x.names.length g1) (.slice f2 x.kids.length g2) (.int .i64 x.pl))).trans rfl
            clear HK K
            refine wpAnyH_done (by kernel_rfl) ?_ _
            have WR := wrote_1 (n := ks.length) (j := 5) (V := .slice (some ⟨g, 0, none⟩) (ks.length + 1) cap2) hcur K109.out hgk (.int .i64 x.kind) (.int .i64 x.op) (.int .i64 x.num) (.string x.str) (.slice f1 x.names.length g1) (.slice f2 x.kids.length g2) (.int .i64 x.pl)
            unfold put7n at WR
            have hkk := WR.hk
            simp at hkk
            go_end0
            exact ⟨rfl, ⟨_, _, hkk, (WR.rest pb (Ne.symm hgp) (Ne.symm C.ne)).trans Q109.out, srow_keep M109.out (fun b hb => WR.rest b (fun e => AP2.out b hb e) (fun e => C.nk (e ▸ (srow_own M109.out b hb).1))), PU.out _ cur hcur WR.hg (by rw [WR.size]; omega) (fun k hk hk2 hk3 => WR.rest k hk3 (fun e => C.nk (e ▸ hk.1)))⟩, pst_low S109.out (WR.below (by omega) (by omega)), B109.out.trans (WR.butlo hgl C.k)⟩
          · have HK := hid hK
            clear hK
            have k0 := blk_cell K109.out 5
            have z0 := blk_free K109.out 5
            simp at k0
            go_simp
            refine HK.out.out _ _ ?_ (fun hHeld => ?_)
            · exact ((World.cell?_of_block (w := w109) (Below.heap_setCell _ _ _ _ hqk)).trans (blk_cell Q109.out 0)).trans rfl
            clear HK K
            refine wpAnyH_ready (rs := [8]) (by kernel_rfl) (by simp) ?_
            refine AllReadyH.cons rfl (fun K hK => ?_) AllReadyH.nil
            have HK := hid hK
            clear hK
            have hcur2 := (show Blk g 26 cur (w109.setCell ⟨nb, 5, none⟩ (.slice (some ⟨g, 0, none⟩) (ks.length + 1) cap2)) from (Below.heap_setCell _ _ _ _ hgk).trans hcur)
            obtain ⟨⟨_, e0⟩, ⟨_, e1⟩, ⟨_, e2⟩, ⟨_, e3⟩, ⟨_, e4⟩, ⟨_, e5⟩, ⟨_, e6⟩⟩ := cellsN hcur2 hcs
            obtain ⟨u0, u1, u2, u3, u4, u5, u6⟩ := freesN hcur2 ks.length
            go_simp
            refine HK.out.out _ _ ?_ (fun hHeld => ?_)
            · exact (put7n_cell (g := g) (i := ks.length * 7) ((World.cell?_of_block (w := w109) (Below.heap_setCell _ _ _ _ hqk)).trans (blk_cell Q109.out 0)) (Ne.symm hgp) (.int .i64 x.kind) (.int .i64 x.op) (.int .i64 x.num) (.string x.str) (.slice f1 x.names.length g1) (.slice f2 x.kids.length g2) (.int .i64 x.pl)).trans rfl
            clear HK K
            refine wpAnyH_done (by kernel_rfl) ?_ _
            have WR := wrote_2 (n := ks.length) (j := 5) (V := .slice (some ⟨g, 0, none⟩) (ks.length + 1) cap2) hcur K109.out hgk (.int .i64 x.kind) (.int .i64 x.op) (.int .i64 x.num) (.string x.str) (.slice f1 x.names.length g1) (.slice f2 x.kids.length g2) (.int .i64 x.pl)
            unfold put7n at WR
            have hkk := WR.hk
            simp at hkk
            go_end0
            exact ⟨rfl, ⟨_, _, hkk, (WR.rest pb (Ne.symm hgp) (Ne.symm C.ne)).trans Q109.out, srow_keep M109.out (fun b hb => WR.rest b (fun e => AP2.out b hb e) (fun e => C.nk (e ▸ (srow_own M109.out b hb).1))), PU.out _ cur hcur WR.hg (by rw [WR.size]; omega) (fun k hk hk2 hk3 => WR.rest k hk3 (fun e => C.nk (e ▸ hk.1)))⟩, pst_low S109.out (WR.below (by omega) (by omega)), B109.out.trans (WR.butlo hgl C.k)⟩
      · have HK := hid hK
        clear hK
        go_simp
        have AZ := (Below.refl _ w107).alloc (Nat.le_refl _) (.cells #[.int .i64 0, .int .i64 0, .int .i64 0, .string ⟨#[]⟩, .slice none 0 0, .slice none 0 0, .int .i64 0] 26)
        have Y110 := hid (blk_new w107 26 #[.int .i64 0, .int .i64 0, .int .i64 0, .string ⟨#[]⟩, .slice none 0 0, .slice none 0 0, .int .i64 0])
        have S110 := hid (S107.out.on AZ)
        have K110 := hid (blk_on K107.out AZ)
        have Q110 := hid (blk_on Q107.out AZ)
        have R110 := hid (krow_below R107.out AZ)
        have B110 := hid (B107.out.trans (ButLo.of (But.of (P := P) AZ) (by have := B107.out.size; omega)))
        have N110 := hid (ndW_els N107.out AZ)
        have M110 := hid (srow_below M107.out AZ)
        obtain ⟨w110, hw110⟩ : ∃ w110, w107.alloc (.cells #[.int .i64 0, .int .i64 0, .int .i64 0, .string ⟨#[]⟩, .slice none 0 0, .slice none 0 0, .int .i64 0] 26) = w110 := ⟨_, rfl⟩
        rw [hw110] at AZ Y110 S110 K110 Q110 R110 B110 M110 N110 ⊢
        have hz110 : w110.heap.size = w107.heap.size + 1 := by rw [← hw110]; simp
        refine HK.out.out _ _ ?_ (fun hHeld => ?_)
        · exact (blk_cell Q110.out 0).trans rfl
        clear HK K AZ hw110 S107 K107 Q107 R107 B107 M107 N107
        refine wpAnyH_ready (rs := [1]) (by kernel_rfl) (by simp) ?_
        refine AllReadyH.cons rfl (fun K hK => ?_) AllReadyH.nil
        · have HK := hid hK
          clear hK
          have k0 := blk_cell K110.out 5
          simp at k0
          go_simp
          refine HK.out.out _ _ ?_ (fun hHeld => ?_)
          · exact (blk_cell Q110.out 0).trans rfl
          clear HK K k0
          refine wpAnyH_take (i := 4) (v := ?vk42) rfl (by kernel_rfl) (by kernel_rfl) (by kernel_rfl) (fun _ _ _ h => h) (Or.inl ⟨by rfl, ?hyk42⟩) (by assumption) ?_
          case hyk42 => (intro w hSw; go_simp <;> (try with_reducible rfl))
          simp only [Act.put, List.setIfInBounds_toArray, List.set_cons_zero, List.set_cons_succ, List.getElem_toArray, List.getElem_cons_succ, List.getElem_cons_zero]
          refine wpAnyH_ready (rs := [6]) (by kernel_rfl) (by simp) ?_
          refine AllReadyH.cons rfl (fun K hK => ?_) AllReadyH.nil
          have HK := hid hK
          clear hK
          obtain ⟨cs, hown, hr, hg⟩ := R110.out
          obtain ⟨i0, hi, hz0, hz1, hz2⟩ := infoN
          have hsz := B110.out.size
          refine step_append_lies _ rfl _ _ 24 rfl lo 26 i0 _ 7 96 underN hi hz0 hz1 hz2 rfl (by decide) (.slice ao ks.length cap) _ cs (by rfl) hown ⟨w107.heap.size, 0, none⟩ 1 1 zl (by rfl) rfl (zl_cells Y110.out) zl_one (by decide) (by unfold maxLen; omega) (by omega) (by omega) _ rfl ?_
          intro g cap2 w111 hown' hgrow hat hlt
          have AP := hid (nput_at hown' hgrow hat R110.out (by omega) (blk_lt K110.out) (blk_lt Q110.out) (fun h => C.nk h.1) (fun h => C.nq h.1))
          have S111 := hid (pst_low S110.out (grown_low hgrow (by omega) (fun k hk => by have := ((krow_own R110.out) k hk).2.1; omega)))
          have K111 := hid (blk_grown K110.out hgrow (fun e => C.nk (((krow_own R110.out) _ e.symm).1.1)))
          have Q111 := hid (blk_grown Q110.out hgrow (fun e => C.nq (((krow_own R110.out) _ e.symm).1.1)))
          have B111 := hid (B110.out.trans (ButLo.grown hgrow (by omega) (fun k hk => ((krow_own R110.out) k hk).2.1)))
          have M111 := hid (srow_grown M110.out hgrow (fun b hb e => ((krow_own R110.out) b e.symm).1.2 hb.symm))
          have AP2 := hid (show ∀ b, nv.ownBlock = some b → b ≠ g from fun b hb e => by rcases hat with h | h; exact ((krow_own R110.out) g h).1.2 (e ▸ hb.symm); have := (srow_own M110.out b hb).2.2; omega)
          have PU := hid (nput_row (x := x) (nv := .slice f1 x.names.length g1) (kv := .slice f2 x.kids.length g2) hown' hgrow hat hr hg N110.out (fun k hk => ⟨C.up k (by have := blk_lt K110.out; omega) (by have := blk_lt Q110.out; omega), fun e => by have := (srow_own M110.out k e.symm).2.2; omega⟩) (by omega))
          obtain ⟨cur, hcur, hcs⟩ := AP.out.blk
          obtain ⟨⟨_, e0⟩, ⟨_, e1⟩, ⟨_, e2⟩, ⟨_, e3⟩, ⟨_, e4⟩, ⟨_, e5⟩, ⟨_, e6⟩⟩ := cellsN hcur hcs
          obtain ⟨u0, u1, u2, u3, u4, u5, u6⟩ := freesN hcur ks.length
          have hgl : lo ≤ g := AP.out.lo
          have hgk : g ≠ nb := AP.out.nk
          have hgp : g ≠ pb := AP.out.nq
          have hqk : pb ≠ nb := Ne.symm C.ne
          have hidx : (ks.length : Int) < (ks.length : Int) + 1 := by omega
          clear hown hr hg hi hz0 hz1 hz2 i0 hown' hgrow hat hlt Y110 R110 N110 S110 K110 Q110 B110 M110
          refine HK.out.out _ _ ?_ (fun hHeld => ?_)
          · exact (blk_cell Q111.out 0).trans rfl
          clear HK K
          refine wpAnyH_take (i := 7) (v := ?vk43) rfl (by kernel_rfl) (by kernel_rfl) (by kernel_rfl) (fun _ _ _ h => h) (Or.inl ⟨by rfl, ?hyk43⟩) (by assumption) ?_
          case hyk43 => (intro w hSw; go_simp <;> (try with_reducible rfl))
          simp only [Act.put, List.setIfInBounds_toArray, List.set_cons_zero, List.set_cons_succ, List.getElem_toArray, List.getElem_cons_succ, List.getElem_cons_zero]
          refine wpAnyH_take (i := 9) (v := ?vk44) rfl (by kernel_rfl) (by kernel_rfl) (by kernel_rfl) (fun _ _ _ h => h) (Or.inl ⟨by rfl, ?hyk44⟩) (by assumption) ?_
          case hyk44 => (intro w hSw; go_simp <;> (try with_reducible rfl))
          simp only [Act.put, List.setIfInBounds_toArray, List.set_cons_zero, List.set_cons_succ, List.getElem_toArray, List.getElem_cons_succ, List.getElem_cons_zero]
          refine wpAnyH_ready (rs := [8, 10]) (by kernel_rfl) (by simp) ?_
          refine AllReadyH.cons rfl (fun K hK => ?_) (AllReadyH.cons rfl (fun K hK => ?_) AllReadyH.nil)
          · have HK := hid hK
            clear hK
            go_simp
            refine HK.out.out _ _ ?_ (fun hHeld => ?_)
            · exact (put7n_cell (g := g) (i := ks.length * 7) (blk_cell Q111.out 0) (Ne.symm hgp) (.int .i64 x.kind) (.int .i64 x.op) (.int .i64 x.num) (.string x.str) (.slice f1 x.names.length g1) (.slice f2 x.kids.length g2) (.int .i64 x.pl)).trans rfl
            clear HK K
            refine wpAnyH_ready (rs := [10]) (by kernel_rfl) (by simp) ?_
            refine AllReadyH.cons rfl (fun K hK => ?_) AllReadyH.nil
            have HK := hid hK
            clear hK
            have k0 := put7n_cell (g := g) (i := ks.length * 7) (blk_cell K111.out 5) (Ne.symm hgk) (.int .i64 x.kind) (.int .i64 x.op) (.int .i64 x.num) (.string x.str) (.slice f1 x.names.length g1) (.slice f2 x.kids.length g2) (.int .i64 x.pl)
            unfold put7n at k0
            simp at k0
            have z0 := put7n_free (g := g) (i := ks.length * 7) (blk_free K111.out 5) (Ne.symm hgk) (.int .i64 x.kind) (.int .i64 x.op) (.int .i64 x.num) (.string x.str) (.slice f1 x.names.length g1) (.slice f2 x.kids.length g2) (.int .i64 x.pl)
            unfold put7n at z0
            go_simp
            refine HK.out.out _ _ ?_ (fun hHeld => ?_)
            · exact ((World.cell?_of_block (w := put7n w111 g (ks.length * 7) (.int .i64 x.kind) (.int .i64 x.op) (.int .i64 x.num) (.string x.str) (.slice f1 x.names.length g1) (.slice f2 x.kids.length g2) (.int .i64 x.pl)) (Below.heap_setCell _ _ _ _ hqk)).trans (put7n_cell (g := g) (i := ks.length * 7) (blk_cell Q111.out 0) (Ne.symm hgp) (.int .i64 x.kind) (.int .i64 x.op) (.int .i64 x.num) (.string x.str) (.slice f1 x.names.length g1) (.slice f2 x.kids.length g2) (.int .i64 x.pl))).trans rfl
            clear HK K
            refine wpAnyH_done (by kernel_rfl) ?_ _
            have WR := wrote_1 (n := ks.length) (j := 5) (V := .slice (some ⟨g, 0, none⟩) (ks.length + 1) cap2) hcur K111.out hgk (.int .i64 x.kind) (.int .i64 x.op) (.int .i64 x.num) (.string x.str) (.slice f1 x.names.length g1) (.slice f2 x.kids.length g2) (.int .i64 x.pl)
            unfold put7n at WR
            have hkk := WR.hk
            simp at hkk
            go_end0
            exact ⟨rfl, ⟨_, _, hkk, (WR.rest pb (Ne.symm hgp) (Ne.symm C.ne)).trans Q111.out, srow_keep M111.out (fun b hb => WR.rest b (fun e => AP2.out b hb e) (fun e => C.nk (e ▸ (srow_own M111.out b hb).1))), PU.out _ cur hcur WR.hg (by rw [WR.size]; omega) (fun k hk hk2 hk3 => WR.rest k hk3 (fun e => C.nk (e ▸ hk.1)))⟩, pst_low S111.out (WR.below (by omega) (by omega)), B111.out.trans (WR.butlo hgl C.k)⟩
          · have HK := hid hK
            clear hK
            have k0 := blk_cell K111.out 5
            have z0 := blk_free K111.out 5
            simp at k0
            go_simp
            refine HK.out.out _ _ ?_ (fun hHeld => ?_)
            · exact ((World.cell?_of_block (w := w111) (Below.heap_setCell _ _ _ _ hqk)).trans (blk_cell Q111.out 0)).trans rfl
            clear HK K
            refine wpAnyH_ready (rs := [8]) (by kernel_rfl) (by simp) ?_
            refine AllReadyH.cons rfl (fun K hK => ?_) AllReadyH.nil
            have HK := hid hK
            clear hK
            have hcur2 := (show Blk g 26 cur (w111.setCell ⟨nb, 5, none⟩ (.slice (some ⟨g, 0, none⟩) (ks.length + 1) cap2)) from (Below.heap_setCell _ _ _ _ hgk).trans hcur)
            obtain ⟨⟨_, e0⟩, ⟨_, e1⟩, ⟨_, e2⟩, ⟨_, e3⟩, ⟨_, e4⟩, ⟨_, e5⟩, ⟨_, e6⟩⟩ := cellsN hcur2 hcs
            obtain ⟨u0, u1, u2, u3, u4, u5, u6⟩ := freesN hcur2 ks.length
            go_simp
            refine HK.out.out _ _ ?_ (fun hHeld => ?_)
            · exact (put7n_cell (g := g) (i := ks.length * 7) ((World.cell?_of_block (w := w111) (Below.heap_setCell _ _ _ _ hqk)).trans (blk_cell Q111.out 0)) (Ne.symm hgp) (.int .i64 x.kind) (.int .i64 x.op) (.int .i64 x.num) (.string x.str) (.slice f1 x.names.length g1) (.slice f2 x.kids.length g2) (.int .i64 x.pl)).trans rfl
            clear HK K
            refine wpAnyH_done (by kernel_rfl) ?_ _
            have WR := wrote_2 (n := ks.length) (j := 5) (V := .slice (some ⟨g, 0, none⟩) (ks.length + 1) cap2) hcur K111.out hgk (.int .i64 x.kind) (.int .i64 x.op) (.int .i64 x.num) (.string x.str) (.slice f1 x.names.length g1) (.slice f2 x.kids.length g2) (.int .i64 x.pl)
            unfold put7n at WR
            have hkk := WR.hk
            simp at hkk
            go_end0
            exact ⟨rfl, ⟨_, _, hkk, (WR.rest pb (Ne.symm hgp) (Ne.symm C.ne)).trans Q111.out, srow_keep M111.out (fun b hb => WR.rest b (fun e => AP2.out b hb e) (fun e => C.nk (e ▸ (srow_own M111.out b hb).1))), PU.out _ cur hcur WR.hg (by rw [WR.size]; omega) (fun k hk hk2 hk3 => WR.rest k hk3 (fun e => C.nk (e ▸ hk.1)))⟩, pst_low S111.out (WR.below (by omega) (by omega)), B111.out.trans (WR.butlo hgl C.k)⟩
    · have HK := hid hK
      clear hK
      go_simp
      have AZ := (Below.refl _ w0).alloc (Nat.le_refl _) (.cells #[.int .i64 0, .int .i64 0, .int .i64 0, .string ⟨#[]⟩, .slice none 0 0, .slice none 0 0, .int .i64 0] 26)
      have Y112 := hid (blk_new w0 26 #[.int .i64 0, .int .i64 0, .int .i64 0, .string ⟨#[]⟩, .slice none 0 0, .slice none 0 0, .int .i64 0])
      have S112 := hid (S0.out.on AZ)
      have K112 := hid (blk_on K0.out AZ)
      have Q112 := hid (blk_on Q0.out AZ)
      have R112 := hid (krow_below R0.out AZ)
      have B112 := hid (B0.out.trans (ButLo.of (But.of (P := P) AZ) (by have := B0.out.size; omega)))
      have M112 := hid (srow_below M0.out AZ)
      obtain ⟨w112, hw112⟩ : ∃ w112, w0.alloc (.cells #[.int .i64 0, .int .i64 0, .int .i64 0, .string ⟨#[]⟩, .slice none 0 0, .slice none 0 0, .int .i64 0] 26) = w112 := ⟨_, rfl⟩
      rw [hw112] at AZ Y112 S112 K112 Q112 R112 B112 M112 ⊢
      have hz112 : w112.heap.size = w0.heap.size + 1 := by rw [← hw112]; simp
      refine HK.out.out _ _ ?_ (fun hHeld => ?_)
      · exact (blk_cell Q112.out 0).trans rfl
      clear HK K AZ hw112 S0 K0 Q0 R0 B0 M0
      refine wpAnyH_ready (rs := [1, 3]) (by kernel_rfl) (by simp) ?_
      refine AllReadyH.cons rfl (fun K hK => ?_) (AllReadyH.cons rfl (fun K hK => ?_) AllReadyH.nil)
      · have HK := hid hK
        clear hK
        have k0 := blk_cell K112.out 5
        simp at k0
        go_simp
        refine HK.out.out _ _ ?_ (fun hHeld => ?_)
        · exact (blk_cell Q112.out 0).trans rfl
        clear HK K k0
        refine wpAnyH_take (i := 4) (v := ?vk45) rfl (by kernel_rfl) (by kernel_rfl) (by kernel_rfl) (fun _ _ _ h => h) (Or.inl ⟨by rfl, ?hyk45⟩) (by assumption) ?_
        case hyk45 => (intro w hSw; go_simp <;> (try with_reducible rfl))
        simp only [Act.put, List.setIfInBounds_toArray, List.set_cons_zero, List.set_cons_succ, List.getElem_toArray, List.getElem_cons_succ, List.getElem_cons_zero]
        refine wpAnyH_ready (rs := [3]) (by kernel_rfl) (by simp) ?_
        refine AllReadyH.cons rfl (fun K hK => ?_) AllReadyH.nil
        · have HK := hid hK
          clear hK
          go_simp
          refine (HC.out _ S112).mono ?_
          rintro e3 w113 ⟨⟨nv3, kv3, rfl, n3⟩, s3, b3⟩
          obtain ⟨f1, g1, f2, g2, rfl, rfl⟩ := ndR_shape n3
          have N113 := hid (ndR_els (ok := (OkN ok nv)) (v := (.slice ao ks.length cap)) n3 (fun b hb => ⟨C.up b (by have := blk_lt K112.out; omega) (by have := blk_lt Q112.out; omega), fun e => by have := (srow_own M112.out b e.symm).2.2; omega⟩) (fun g hg => ((krow_own R112.out) g hg).2.2))
          have S113 := hid s3
          have K113 := hid (blk_but K112.out b3 (by omega))
          have Q113 := hid (blk_but Q112.out b3 (by omega))
          have R113 := hid (krow_but R112.out b3 (fun h => C.np h.1))
          have B113 := hid (B112.out.trans (ButLo.of b3 (by have := B112.out.size; omega)))
          have M113 := hid (srow_but M112.out b3 C.np)
          have Y113 := hid (blk_but Y112.out b3 (by have := B112.out.size; omega))
          have hz113 : w112.heap.size ≤ w113.heap.size := b3.size
          clear s3 b3 n3 S112 K112 Q112 R112 B112 M112 Y112
          unfold ndv
          simp only
          refine HK.out.out _ _ ?_ (fun hHeld => ?_)
          · exact (blk_cell Q113.out 0).trans rfl
          clear HK K
          refine wpAnyH_ready (rs := [6]) (by kernel_rfl) (by simp) ?_
          refine AllReadyH.cons rfl (fun K hK => ?_) AllReadyH.nil
          have HK := hid hK
          clear hK
          obtain ⟨cs, hown, hr, hg⟩ := R113.out
          obtain ⟨i0, hi, hz0, hz1, hz2⟩ := infoN
          have hsz := B113.out.size
          refine step_append_lies _ rfl _ _ 24 rfl lo 26 i0 _ 7 96 underN hi hz0 hz1 hz2 rfl (by decide) (.slice ao ks.length cap) _ cs (by rfl) hown ⟨w0.heap.size, 0, none⟩ 1 1 zl (by rfl) rfl (zl_cells Y113.out) zl_one (by decide) (by unfold maxLen; omega) (by omega) (by omega) _ rfl ?_
          intro g cap2 w114 hown' hgrow hat hlt
          have AP := hid (nput_at hown' hgrow hat R113.out (by omega) (blk_lt K113.out) (blk_lt Q113.out) (fun h => C.nk h.1) (fun h => C.nq h.1))
          have S114 := hid (pst_low S113.out (grown_low hgrow (by omega) (fun k hk => by have := ((krow_own R113.out) k hk).2.1; omega)))
          have K114 := hid (blk_grown K113.out hgrow (fun e => C.nk (((krow_own R113.out) _ e.symm).1.1)))
          have Q114 := hid (blk_grown Q113.out hgrow (fun e => C.nq (((krow_own R113.out) _ e.symm).1.1)))
          have B114 := hid (B113.out.trans (ButLo.grown hgrow (by omega) (fun k hk => ((krow_own R113.out) k hk).2.1)))
          have M114 := hid (srow_grown M113.out hgrow (fun b hb e => ((krow_own R113.out) b e.symm).1.2 hb.symm))
          have AP2 := hid (show ∀ b, nv.ownBlock = some b → b ≠ g from fun b hb e => by rcases hat with h | h; exact ((krow_own R113.out) g h).1.2 (e ▸ hb.symm); have := (srow_own M113.out b hb).2.2; omega)
          have PU := hid (nput_row (x := x) (nv := .slice f1 x.names.length g1) (kv := .slice f2 x.kids.length g2) hown' hgrow hat hr hg N113.out (fun k hk => ⟨C.up k (by have := blk_lt K113.out; omega) (by have := blk_lt Q113.out; omega), fun e => by have := (srow_own M113.out k e.symm).2.2; omega⟩) (by omega))
          obtain ⟨cur, hcur, hcs⟩ := AP.out.blk
          obtain ⟨⟨_, e0⟩, ⟨_, e1⟩, ⟨_, e2⟩, ⟨_, e3⟩, ⟨_, e4⟩, ⟨_, e5⟩, ⟨_, e6⟩⟩ := cellsN hcur hcs
          obtain ⟨u0, u1, u2, u3, u4, u5, u6⟩ := freesN hcur ks.length
          have hgl : lo ≤ g := AP.out.lo
          have hgk : g ≠ nb := AP.out.nk
          have hgp : g ≠ pb := AP.out.nq
          have hqk : pb ≠ nb := Ne.symm C.ne
          have hidx : (ks.length : Int) < (ks.length : Int) + 1 := by omega
          clear hown hr hg hi hz0 hz1 hz2 i0 hown' hgrow hat hlt Y113 R113 N113 S113 K113 Q113 B113 M113
          refine HK.out.out _ _ ?_ (fun hHeld => ?_)
          · exact (blk_cell Q114.out 0).trans rfl
          clear HK K
          refine wpAnyH_take (i := 7) (v := ?vk46) rfl (by kernel_rfl) (by kernel_rfl) (by kernel_rfl) (fun _ _ _ h => h) (Or.inl ⟨by rfl, ?hyk46⟩) (by assumption) ?_
          case hyk46 => (intro w hSw; go_simp <;> (try with_reducible rfl))
          simp only [Act.put, List.setIfInBounds_toArray, List.set_cons_zero, List.set_cons_succ, List.getElem_toArray, List.getElem_cons_succ, List.getElem_cons_zero]
          refine wpAnyH_take (i := 9) (v := ?vk47) rfl (by kernel_rfl) (by kernel_rfl) (by kernel_rfl) (fun _ _ _ h => h) (Or.inl ⟨by rfl, ?hyk47⟩) (by assumption) ?_
          case hyk47 => (intro w hSw; go_simp <;> (try with_reducible rfl))
          simp only [Act.put, List.setIfInBounds_toArray, List.set_cons_zero, List.set_cons_succ, List.getElem_toArray, List.getElem_cons_succ, List.getElem_cons_zero]
          refine wpAnyH_ready (rs := [8, 10]) (by kernel_rfl) (by simp) ?_
          refine AllReadyH.cons rfl (fun K hK => ?_) (AllReadyH.cons rfl (fun K hK => ?_) AllReadyH.nil)
          · have HK := hid hK
            clear hK
            go_simp
            refine HK.out.out _ _ ?_ (fun hHeld => ?_)
            · exact (put7n_cell (g := g) (i := ks.length * 7) (blk_cell Q114.out 0) (Ne.symm hgp) (.int .i64 x.kind) (.int .i64 x.op) (.int .i64 x.num) (.string x.str) (.slice f1 x.names.length g1) (.slice f2 x.kids.length g2) (.int .i64 x.pl)).trans rfl
            clear HK K
            refine wpAnyH_ready (rs := [10]) (by kernel_rfl) (by simp) ?_
            refine AllReadyH.cons rfl (fun K hK => ?_) AllReadyH.nil
            have HK := hid hK
            clear hK
            have k0 := put7n_cell (g := g) (i := ks.length * 7) (blk_cell K114.out 5) (Ne.symm hgk) (.int .i64 x.kind) (.int .i64 x.op) (.int .i64 x.num) (.string x.str) (.slice f1 x.names.length g1) (.slice f2 x.kids.length g2) (.int .i64 x.pl)
            unfold put7n at k0
            simp at k0
            have z0 := put7n_free (g := g) (i := ks.length * 7) (blk_free K114.out 5) (Ne.symm hgk) (.int .i64 x.kind) (.int .i64 x.op) (.int .i64 x.num) (.string x.str) (.slice f1 x.names.length g1) (.slice f2 x.kids.length g2) (.int .i64 x.pl)
            unfold put7n at z0
            go_simp
            refine HK.out.out _ _ ?_ (fun hHeld => ?_)
            · exact ((World.cell?_of_block (w := put7n w114 g (ks.length * 7) (.int .i64 x.kind) (.int .i64 x.op) (.int .i64 x.num) (.string x.str) (.slice f1 x.names.length g1) (.slice f2 x.kids.length g2) (.int .i64 x.pl)) (Below.heap_setCell _ _ _ _ hqk)).trans (put7n_cell (g := g) (i := ks.length * 7) (blk_cell Q114.out 0) (Ne.symm hgp) (.int .i64 x.kind) (.int .i64 x.op) (.int .i64 x.num) (.string x.str) (.slice f1 x.names.length g1) (.slice f2 x.kids.length g2) (.int .i64 x.pl))).trans rfl
            clear HK K
            refine wpAnyH_done (by kernel_rfl) ?_ _
            have WR := wrote_1 (n := ks.length) (j := 5) (V := .slice (some ⟨g, 0, none⟩) (ks.length + 1) cap2) hcur K114.out hgk (.int .i64 x.kind) (.int .i64 x.op) (.int .i64 x.num) (.string x.str) (.slice f1 x.names.length g1) (.slice f2 x.kids.length g2) (.int .i64 x.pl)
            unfold put7n at WR
            have hkk := WR.hk
            simp at hkk
            go_end0
            exact ⟨rfl, ⟨_, _, hkk, (WR.rest pb (Ne.symm hgp) (Ne.symm C.ne)).trans Q114.out, srow_keep M114.out (fun b hb => WR.rest b (fun e => AP2.out b hb e) (fun e => C.nk (e ▸ (srow_own M114.out b hb).1))), PU.out _ cur hcur WR.hg (by rw [WR.size]; omega) (fun k hk hk2 hk3 => WR.rest k hk3 (fun e => C.nk (e ▸ hk.1)))⟩, pst_low S114.out (WR.below (by omega) (by omega)), B114.out.trans (WR.butlo hgl C.k)⟩
          · have HK := hid hK
            clear hK
            have k0 := blk_cell K114.out 5
            have z0 := blk_free K114.out 5
            simp at k0
            go_simp
            refine HK.out.out _ _ ?_ (fun hHeld => ?_)
            · exact ((World.cell?_of_block (w := w114) (Below.heap_setCell _ _ _ _ hqk)).trans (blk_cell Q114.out 0)).trans rfl
            clear HK K
            refine wpAnyH_ready (rs := [8]) (by kernel_rfl) (by simp) ?_
            refine AllReadyH.cons rfl (fun K hK => ?_) AllReadyH.nil
            have HK := hid hK
            clear hK
            have hcur2 := (show Blk g 26 cur (w114.setCell ⟨nb, 5, none⟩ (.slice (some ⟨g, 0, none⟩) (ks.length + 1) cap2)) from (Below.heap_setCell _ _ _ _ hgk).trans hcur)
            obtain ⟨⟨_, e0⟩, ⟨_, e1⟩, ⟨_, e2⟩, ⟨_, e3⟩, ⟨_, e4⟩, ⟨_, e5⟩, ⟨_, e6⟩⟩ := cellsN hcur2 hcs
            obtain ⟨u0, u1, u2, u3, u4, u5, u6⟩ := freesN hcur2 ks.length
            go_simp
            refine HK.out.out _ _ ?_ (fun hHeld => ?_)
            · exact (put7n_cell (g := g) (i := ks.length * 7) ((World.cell?_of_block (w := w114) (Below.heap_setCell _ _ _ _ hqk)).trans (blk_cell Q114.out 0)) (Ne.symm hgp) (.int .i64 x.kind) (.int .i64 x.op) (.int .i64 x.num) (.string x.str) (.slice f1 x.names.length g1) (.slice f2 x.kids.length g2) (.int .i64 x.pl)).trans rfl
            clear HK K
            refine wpAnyH_done (by kernel_rfl) ?_ _
            have WR := wrote_2 (n := ks.length) (j := 5) (V := .slice (some ⟨g, 0, none⟩) (ks.length + 1) cap2) hcur K114.out hgk (.int .i64 x.kind) (.int .i64 x.op) (.int .i64 x.num) (.string x.str) (.slice f1 x.names.length g1) (.slice f2 x.kids.length g2) (.int .i64 x.pl)
            unfold put7n at WR
            have hkk := WR.hk
            simp at hkk
            go_end0
            exact ⟨rfl, ⟨_, _, hkk, (WR.rest pb (Ne.symm hgp) (Ne.symm C.ne)).trans Q114.out, srow_keep M114.out (fun b hb => WR.rest b (fun e => AP2.out b hb e) (fun e => C.nk (e ▸ (srow_own M114.out b hb).1))), PU.out _ cur hcur WR.hg (by rw [WR.size]; omega) (fun k hk hk2 hk3 => WR.rest k hk3 (fun e => C.nk (e ▸ hk.1)))⟩, pst_low S114.out (WR.below (by omega) (by omega)), B114.out.trans (WR.butlo hgl C.k)⟩
      · have HK := hid hK
        clear hK
        go_simp
        refine (HC.out _ S112).mono ?_
        rintro e3 w115 ⟨⟨nv3, kv3, rfl, n3⟩, s3, b3⟩
        obtain ⟨f1, g1, f2, g2, rfl, rfl⟩ := ndR_shape n3
        have N115 := hid (ndR_els (ok := (OkN ok nv)) (v := (.slice ao ks.length cap)) n3 (fun b hb => ⟨C.up b (by have := blk_lt K112.out; omega) (by have := blk_lt Q112.out; omega), fun e => by have := (srow_own M112.out b e.symm).2.2; omega⟩) (fun g hg => ((krow_own R112.out) g hg).2.2))
        have S115 := hid s3
        have K115 := hid (blk_but K112.out b3 (by omega))
        have Q115 := hid (blk_but Q112.out b3 (by omega))
        have R115 := hid (krow_but R112.out b3 (fun h => C.np h.1))
        have B115 := hid (B112.out.trans (ButLo.of b3 (by have := B112.out.size; omega)))
        have M115 := hid (srow_but M112.out b3 C.np)
        have Y115 := hid (blk_but Y112.out b3 (by have := B112.out.size; omega))
        have hz115 : w112.heap.size ≤ w115.heap.size := b3.size
        clear s3 b3 n3 S112 K112 Q112 R112 B112 M112 Y112
        unfold ndv
        simp only
        refine HK.out.out _ _ ?_ (fun hHeld => ?_)
        · exact (blk_cell Q115.out 0).trans rfl
        clear HK K
        refine wpAnyH_ready (rs := [1]) (by kernel_rfl) (by simp) ?_
        refine AllReadyH.cons rfl (fun K hK => ?_) AllReadyH.nil
        · have HK := hid hK
          clear hK
          have k0 := blk_cell K115.out 5
          simp at k0
          go_simp
          refine HK.out.out _ _ ?_ (fun hHeld => ?_)
          · exact (blk_cell Q115.out 0).trans rfl
          clear HK K k0
          refine wpAnyH_take (i := 4) (v := ?vk48) rfl (by kernel_rfl) (by kernel_rfl) (by kernel_rfl) (fun _ _ _ h => h) (Or.inl ⟨by rfl, ?hyk48⟩) (by assumption) ?_
          case hyk48 => (intro w hSw; go_simp <;> (try with_reducible rfl))
          simp only [Act.put, List.setIfInBounds_toArray, List.set_cons_zero, List.set_cons_succ, List.getElem_toArray, List.getElem_cons_succ, List.getElem_cons_zero]
          refine wpAnyH_ready (rs := [6]) (by kernel_rfl) (by simp) ?_
          refine AllReadyH.cons rfl (fun K hK => ?_) AllReadyH.nil
          have HK := hid hK
          clear hK
          obtain ⟨cs, hown, hr, hg⟩ := R115.out
          obtain ⟨i0, hi, hz0, hz1, hz2⟩ := infoN
          have hsz := B115.out.size
          refine step_append_lies _ rfl _ _ 24 rfl lo 26 i0 _ 7 96 underN hi hz0 hz1 hz2 rfl (by decide) (.slice ao ks.length cap) _ cs (by rfl) hown ⟨w0.heap.size, 0, none⟩ 1 1 zl (by rfl) rfl (zl_cells Y115.out) zl_one (by decide) (by unfold maxLen; omega) (by omega) (by omega) _ rfl ?_
          intro g cap2 w116 hown' hgrow hat hlt
          have AP := hid (nput_at hown' hgrow hat R115.out (by omega) (blk_lt K115.out) (blk_lt Q115.out) (fun h => C.nk h.1) (fun h => C.nq h.1))
          have S116 := hid (pst_low S115.out (grown_low hgrow (by omega) (fun k hk => by have := ((krow_own R115.out) k hk).2.1; omega)))
          have K116 := hid (blk_grown K115.out hgrow (fun e => C.nk (((krow_own R115.out) _ e.symm).1.1)))
          have Q116 := hid (blk_grown Q115.out hgrow (fun e => C.nq (((krow_own R115.out) _ e.symm).1.1)))
          have B116 := hid (B115.out.trans (ButLo.grown hgrow (by omega) (fun k hk => ((krow_own R115.out) k hk).2.1)))
          have M116 := hid (srow_grown M115.out hgrow (fun b hb e => ((krow_own R115.out) b e.symm).1.2 hb.symm))
          have AP2 := hid (show ∀ b, nv.ownBlock = some b → b ≠ g from fun b hb e => by rcases hat with h | h; exact ((krow_own R115.out) g h).1.2 (e ▸ hb.symm); have := (srow_own M115.out b hb).2.2; omega)
          have PU := hid (nput_row (x := x) (nv := .slice f1 x.names.length g1) (kv := .slice f2 x.kids.length g2) hown' hgrow hat hr hg N115.out (fun k hk => ⟨C.up k (by have := blk_lt K115.out; omega) (by have := blk_lt Q115.out; omega), fun e => by have := (srow_own M115.out k e.symm).2.2; omega⟩) (by omega))
          obtain ⟨cur, hcur, hcs⟩ := AP.out.blk
          obtain ⟨⟨_, e0⟩, ⟨_, e1⟩, ⟨_, e2⟩, ⟨_, e3⟩, ⟨_, e4⟩, ⟨_, e5⟩, ⟨_, e6⟩⟩ := cellsN hcur hcs
          obtain ⟨u0, u1, u2, u3, u4, u5, u6⟩ := freesN hcur ks.length
          have hgl : lo ≤ g := AP.out.lo
          have hgk : g ≠ nb := AP.out.nk
          have hgp : g ≠ pb := AP.out.nq
          have hqk : pb ≠ nb := Ne.symm C.ne
          have hidx : (ks.length : Int) < (ks.length : Int) + 1 := by omega
          clear hown hr hg hi hz0 hz1 hz2 i0 hown' hgrow hat hlt Y115 R115 N115 S115 K115 Q115 B115 M115
          refine HK.out.out _ _ ?_ (fun hHeld => ?_)
          · exact (blk_cell Q116.out 0).trans rfl
          clear HK K
          refine wpAnyH_take (i := 7) (v := ?vk49) rfl (by kernel_rfl) (by kernel_rfl) (by kernel_rfl) (fun _ _ _ h => h) (Or.inl ⟨by rfl, ?hyk49⟩) (by assumption) ?_
          case hyk49 => (intro w hSw; go_simp <;> (try with_reducible rfl))
          simp only [Act.put, List.setIfInBounds_toArray, List.set_cons_zero, List.set_cons_succ, List.getElem_toArray, List.getElem_cons_succ, List.getElem_cons_zero]
          refine wpAnyH_take (i := 9) (v := ?vk50) rfl (by kernel_rfl) (by kernel_rfl) (by kernel_rfl) (fun _ _ _ h => h) (Or.inl ⟨by rfl, ?hyk50⟩) (by assumption) ?_
          case hyk50 => (intro w hSw; go_simp <;> (try with_reducible rfl))
          simp only [Act.put, List.setIfInBounds_toArray, List.set_cons_zero, List.set_cons_succ, List.getElem_toArray, List.getElem_cons_succ, List.getElem_cons_zero]
          refine wpAnyH_ready (rs := [8, 10]) (by kernel_rfl) (by simp) ?_
          refine AllReadyH.cons rfl (fun K hK => ?_) (AllReadyH.cons rfl (fun K hK => ?_) AllReadyH.nil)
          · have HK := hid hK
            clear hK
            go_simp
            refine HK.out.out _ _ ?_ (fun hHeld => ?_)
            · exact (put7n_cell (g := g) (i := ks.length * 7) (blk_cell Q116.out 0) (Ne.symm hgp) (.int .i64 x.kind) (.int .i64 x.op) (.int .i64 x.num) (.string x.str) (.slice f1 x.names.length g1) (.slice f2 x.kids.length g2) (.int .i64 x.pl)).trans rfl
            clear HK K
            refine wpAnyH_ready (rs := [10]) (by kernel_rfl) (by simp) ?_
            refine AllReadyH.cons rfl (fun K hK => ?_) AllReadyH.nil
            have HK := hid hK
            clear hK
            have k0 := put7n_cell (g := g) (i := ks.length * 7) (blk_cell K116.out 5) (Ne.symm hgk) (.int .i64 x.kind) (.int .i64 x.op) (.int .i64 x.num) (.string x.str) (.slice f1 x.names.length g1) (.slice f2 x.kids.length g2) (.int .i64 x.pl)
            unfold put7n at k0
            simp at k0
            have z0 := put7n_free (g := g) (i := ks.length * 7) (blk_free K116.out 5) (Ne.symm hgk) (.int .i64 x.kind) (.int .i64 x.op) (.int .i64 x.num) (.string x.str) (.slice f1 x.names.length g1) (.slice f2 x.kids.length g2) (.int .i64 x.pl)
            unfold put7n at z0
            go_simp
            refine HK.out.out _ _ ?_ (fun hHeld => ?_)
            · exact ((World.cell?_of_block (w := put7n w116 g (ks.length * 7) (.int .i64 x.kind) (.int .i64 x.op) (.int .i64 x.num) (.string x.str) (.slice f1 x.names.length g1) (.slice f2 x.kids.length g2) (.int .i64 x.pl)) (Below.heap_setCell _ _ _ _ hqk)).trans (put7n_cell (g := g) (i := ks.length * 7) (blk_cell Q116.out 0) (Ne.symm hgp) (.int .i64 x.kind) (.int .i64 x.op) (.int .i64 x.num) (.string x.str) (.slice f1 x.names.length g1) (.slice f2 x.kids.length g2) (.int .i64 x.pl))).trans rfl
            clear HK K
            refine wpAnyH_done (by kernel_rfl) ?_ _
            have WR := wrote_1 (n := ks.length) (j := 5) (V := .slice (some ⟨g, 0, none⟩) (ks.length + 1) cap2) hcur K116.out hgk (.int .i64 x.kind) (.int .i64 x.op) (.int .i64 x.num) (.string x.str) (.slice f1 x.names.length g1) (.slice f2 x.kids.length g2) (.int .i64 x.pl)
            unfold put7n at WR
            have hkk := WR.hk
            simp at hkk
            go_end0
            exact ⟨rfl, ⟨_, _, hkk, (WR.rest pb (Ne.symm hgp) (Ne.symm C.ne)).trans Q116.out, srow_keep M116.out (fun b hb => WR.rest b (fun e => AP2.out b hb e) (fun e => C.nk (e ▸ (srow_own M116.out b hb).1))), PU.out _ cur hcur WR.hg (by rw [WR.size]; omega) (fun k hk hk2 hk3 => WR.rest k hk3 (fun e => C.nk (e ▸ hk.1)))⟩, pst_low S116.out (WR.below (by omega) (by omega)), B116.out.trans (WR.butlo hgl C.k)⟩
          · have HK := hid hK
            clear hK
            have k0 := blk_cell K116.out 5
            have z0 := blk_free K116.out 5
            simp at k0
            go_simp
            refine HK.out.out _ _ ?_ (fun hHeld => ?_)
            · exact ((World.cell?_of_block (w := w116) (Below.heap_setCell _ _ _ _ hqk)).trans (blk_cell Q116.out 0)).trans rfl
            clear HK K
            refine wpAnyH_ready (rs := [8]) (by kernel_rfl) (by simp) ?_
            refine AllReadyH.cons rfl (fun K hK => ?_) AllReadyH.nil
            have HK := hid hK
            clear hK
            have hcur2 := (show Blk g 26 cur (w116.setCell ⟨nb, 5, none⟩ (.slice (some ⟨g, 0, none⟩) (ks.length + 1) cap2)) from (Below.heap_setCell _ _ _ _ hgk).trans hcur)
            obtain ⟨⟨_, e0⟩, ⟨_, e1⟩, ⟨_, e2⟩, ⟨_, e3⟩, ⟨_, e4⟩, ⟨_, e5⟩, ⟨_, e6⟩⟩ := cellsN hcur2 hcs
            obtain ⟨u0, u1, u2, u3, u4, u5, u6⟩ := freesN hcur2 ks.length
            go_simp
            refine HK.out.out _ _ ?_ (fun hHeld => ?_)
            · exact (put7n_cell (g := g) (i := ks.length * 7) ((World.cell?_of_block (w := w116) (Below.heap_setCell _ _ _ _ hqk)).trans (blk_cell Q116.out 0)) (Ne.symm hgp) (.int .i64 x.kind) (.int .i64 x.op) (.int .i64 x.num) (.string x.str) (.slice f1 x.names.length g1) (.slice f2 x.kids.length g2) (.int .i64 x.pl)).trans rfl
            clear HK K
            refine wpAnyH_done (by kernel_rfl) ?_ _
            have WR := wrote_2 (n := ks.length) (j := 5) (V := .slice (some ⟨g, 0, none⟩) (ks.length + 1) cap2) hcur K116.out hgk (.int .i64 x.kind) (.int .i64 x.op) (.int .i64 x.num) (.string x.str) (.slice f1 x.names.length g1) (.slice f2 x.kids.length g2) (.int .i64 x.pl)
            unfold put7n at WR
            have hkk := WR.hk
            simp at hkk
            go_end0
            exact ⟨rfl, ⟨_, _, hkk, (WR.rest pb (Ne.symm hgp) (Ne.symm C.ne)).trans Q116.out, srow_keep M116.out (fun b hb => WR.rest b (fun e => AP2.out b hb e) (fun e => C.nk (e ▸ (srow_own M116.out b hb).1))), PU.out _ cur hcur WR.hg (by rw [WR.size]; omega) (fun k hk hk2 hk3 => WR.rest k hk3 (fun e => C.nk (e ▸ hk.1)))⟩, pst_low S116.out (WR.below (by omega) (by omega)), B116.out.trans (WR.butlo hgl C.k)⟩

/-- an object's names are as many as its kids -/
def OStO (P nb pb lo : Nat) (ok : Nat → Prop) (kd at_ : Int) (s : List ByteArray × List Nd) (w : World) : Prop := s.1.length = s.2.length ∧ OSt P nb pb lo ok kd at_ s w
theorem readsO_ok {P nb pb lo : Nat} {ok : Nat → Prop} {kd at_ : Int} {L l : List Tok} {w : World} {s : List ByteArray × List Nd} (hs : s.1.length = s.2.length) : ∀ e w', ReadsG (OSt P nb pb lo ok kd at_) lo P L w (.ok s l) e w' → ReadsG (OStO P nb pb lo ok kd at_) lo P L w (.ok s l) e w' :=
  fun _ _ h => ⟨h.1, ⟨hs, h.2.1⟩, h.2.2⟩
theorem readsO_bad {P nb pb lo : Nat} {ok : Nat → Prop} {kd at_ : Int} {L l : List Tok} {w : World} : ∀ e w', ReadsG (OSt P nb pb lo ok kd at_) lo P L w (.bad l) e w' → ReadsG (OStO P nb pb lo ok kd at_) lo P L w (.bad l) e w' :=
  fun _ _ h => h
theorem obStep_cons (g : Nat) (s : List ByteArray × List Nd) (t : Tok) (q : List Tok) : obStep g s (t :: q) = if isW true (t :: q) then (if isH q [58] then (match pRank g 1 q.tail with | .ok x _ m => .ok (s.1 ++ [(cur (t :: q)).text], s.2 ++ [x]) m | .bad m => .bad m) else .bad q) else .bad (t :: q) := rfl
theorem isW_true {l : List Tok} : isW true l = true ↔ (cur l).kind = 1 ∨ (cur l).kind = 2 := by simp [isW]
theorem ob1_calls (g : Nat) (hR : RankC g) (P nb pb lo : Nat) (L : List Tok) (ok : Nat → Prop) (C : C1 P nb pb lo ok) (kd at_ : Int) :
    PartC 86 (.pointer (some ⟨nb, 0, none⟩)) (.pointer (some ⟨pb, 0, none⟩)) (OStO P nb pb lo ok kd at_) (fun s => s.2.length) 40 obStep lo P L g := by
  rintro ⟨ns, ks⟩ l w hf hc hlw H ⟨hns, nv, kv, h1, h2, h3, h4⟩
  simp only at hc hns h3 h4
  cases l with
  | nil => exact absurd rfl H.out.ne
  | cons t q =>
  rw [obStep_cons]
  by_cases hw : isW true (t :: q) = true
  · rw [if_pos hw]
    have HW := hid (isW_true.1 hw)
    by_cases hh : isH q [58] = true
    · obtain ⟨u, z, hq, hu⟩ := isH_some hh
      rw [if_pos hh]
      have hz : q.tail = z := by rw [hq]; rfl
      rw [hz]
      have HC : ∀ w', Hid (PSt P L w' z) → Calls Tryd.prog 43 #[.pointer (some ⟨P, 0, none⟩)] w' (Reads P L w' (pRank g 1 z)) := fun w' S => hR 1 P L z w' (by omega) (by omega) (by rw [hq] at hf; simp at hf; omega) S
      cases hr : pRank g 1 z with
      | bad l' =>
        rw [hr] at HC
        exact (ob1_bad P nb pb lo L ok C kd at_ ns ks kv nv w (by omega) hlw t u q z hq HW (hid hu) H (hid h1) (hid h2) (hid h3) (hid h4) l' (hid HC)).mono readsO_bad
      | ok x b l' =>
        rw [hr] at HC
        exact (ob1_ok P nb pb lo L ok C kd at_ ns ks kv nv w (by omega) hlw t u q z hq HW (hid hu) H (hid h1) (hid h2) (hid h3) (hid h4) (by omega) x b l' (hid HC)).mono (readsO_ok (by simp [hns]))
    · rw [if_neg hh]
      exact (ob1_colon P nb pb lo L ok C kd at_ ns ks kv nv w (by omega) hlw t q HW H (hid h1) (hid h2) (hid h3) (hid h4) (hid (by simpa using hh))).mono readsO_bad
  · rw [if_neg hw]
    exact (ob1_no P nb pb lo L ok C kd at_ ns ks kv nv w (by omega) hlw (t :: q) (hid (by simpa using hw)) H (hid h1) (hid h2) (hid h3) (hid h4)).mono readsO_bad

theorem ob1_less (P : Nat) (L : List Tok) (g : Nat) (s s' : List ByteArray × List Nd) (l l' : List Tok) (w : World) (H : PSt P L w l) (h : obStep g s l = .ok s' l') : l'.length + 1 ≤ l.length ∧ s'.2.length = s.2.length + 1 := by
  unfold obStep at h
  split at h
  · split at h
    · cases hr : pRank g 1 l.tail.tail with
      | bad m => rw [hr] at h; cases h
      | ok x b m =>
        rw [hr] at h
        injection h with h1 h2
        subst h1 h2
        have hg : GT l.tail.tail := fun t ht => pst_gt H t (List.mem_of_mem_tail (List.mem_of_mem_tail ht))
        have := (may g).rank 1 l.tail.tail hg
        rw [hr] at this
        obtain ⟨_, pre, u, e, _⟩ := this
        have e2 := congrArg List.length e
        simp at e2
        exact ⟨by omega, by simp⟩
    · cases h
  · cases h

end Go.Proofs.YtijbiedblahmhaaDoor

namespace Go.Proofs.YtijbiedblahmhaaDoor
open Go.RowKit

/-- as the plain parser tells it -/
def PG.toL : PG (List ByteArray × List Nd) → PL
  | .ok s l => .ok s.1 s.2 l
  | .bad l => .bad l
theorem gEnd_toL (en : UInt8) (ns : List ByteArray) (ks : List Nd) (l : List Tok) : PG.toL (gEnd en (ns, ks) l) = mustL [en] l fun l => .ok ns ks l := by
  unfold gEnd Go.Proofs.YtijbiedblahmhaaDoor.mustL
  split <;> rfl
theorem field_step (f : Nat) (ns : List ByteArray) (ks : List Nd) (l : List Tok) (k : List ByteArray × List Nd → List Tok → PG (List ByteArray × List Nd)) (h : ∀ ns ks l, pObjM f ns ks l = PG.toL (k (ns, ks) l)) :
    pField (f + 1) ns ks l = PG.toL ((obStep f (ns, ks) l).bind k) := by
  rw [pField]
  unfold Go.Proofs.YtijbiedblahmhaaDoor.wordL Go.Proofs.YtijbiedblahmhaaDoor.mustL obStep
  by_cases hw : isW true l = true
  · simp only [if_pos hw]
    by_cases hh : isH l.tail [58] = true
    · simp only [if_pos hh]
      cases pRank f 1 l.tail.tail with
      | bad m => rfl
      | ok x b m => rw [PR.bindL_ok, h]; rfl
    · simp only [if_neg hh]; rfl
  · simp only [if_neg hw]; rfl
theorem objM_is : ∀ (f : Nat) (ns : List ByteArray) (ks : List Nd) (l : List Tok), pObjM f ns ks l = PG.toL (gMore obStep (fun s => s.2.length) 40 125 f (ns, ks) l)
  | 0, ns, ks, l => by rw [pObjM, gMore]; rfl
  | 1, ns, ks, l => by
    rw [pObjM, gMore]
    split
    · rw [pField]; rfl
    · rw [gEnd_toL]
  | f + 2, ns, ks, l => by
    rw [pObjM, gMore]
    split
    · exact field_step f ns ks _ _ (fun ns ks l => objM_is f ns ks l)
    · rw [gEnd_toL]
theorem obj_is (f : Nat) (l : List Tok) : pObj (f + 2) l = PG.toL (gList obStep (fun s => s.2.length) 40 125 f ([], []) l) := by
  rw [pObj]
  unfold gList
  split
  · rfl
  · exact field_step f [] [] l _ (fun ns ks l => objM_is f ns ks l)
theorem par_is : ∀ (k : Nat) (ns : List ByteArray) (l : List Tok) (f : Nat), ns.length + (k + 1) = 6 → 2 * k + 1 ≤ f →
    pPar (k + 1) ns l = PG.toL ((nmStep f (ns, []) l).bind fun s l => gMore nmStep (fun s => s.1.length) 6 41 f s l)
  | 0, ns, l, f, hn, hf => by
    rw [pPar]
    unfold Go.Proofs.YtijbiedblahmhaaDoor.wordL
    by_cases hw : isW false l = true
    · have e : nmStep f (ns, []) l = .ok (ns ++ [(cur l).text], []) l.tail := by unfold nmStep; rw [if_pos hw]
      simp only [if_pos hw]
      rw [e, PG.bind_ok]
      obtain ⟨f, rfl⟩ : ∃ g, f = g + 1 := ⟨f - 1, by omega⟩
      rw [if_neg (by simp)]
      have hc : ¬ ((ns ++ [(cur l).text]).length < 6 ∧ isH l.tail [44] = true) := by simp; omega
      cases f with
      | zero => rw [gMore, if_neg hc, gEnd_toL]
      | succ f => rw [gMore, if_neg hc, gEnd_toL]
    · have e : nmStep f (ns, []) l = .bad l := by unfold nmStep; rw [if_neg hw]
      rw [if_neg hw, e]; rfl
  | k + 1, ns, l, f, hn, hf => by
    rw [pPar]
    unfold Go.Proofs.YtijbiedblahmhaaDoor.wordL
    by_cases hw : isW false l = true
    · have e : nmStep f (ns, []) l = .ok (ns ++ [(cur l).text], []) l.tail := by unfold nmStep; rw [if_pos hw]
      simp only [if_pos hw]
      rw [e, PG.bind_ok]
      obtain ⟨f, rfl⟩ : ∃ g, f = g + 2 := ⟨f - 2, by omega⟩
      by_cases hh : isH l.tail [44] = true
      · rw [if_pos ⟨by omega, hh⟩, gMore, if_pos ⟨by simp; omega, hh⟩]
        exact par_is k _ _ f (by simp; omega) (by omega)
      · rw [if_neg (fun h => hh h.2), gMore, if_neg (fun h => hh h.2), gEnd_toL]
    · rw [if_neg hw]
      have e : nmStep f (ns, []) l = .bad l := by unfold nmStep; rw [if_neg hw]
      rw [e]; rfl
theorem pars_is (f : Nat) (hf : 11 ≤ f) (l : List Tok) : pPars l = PG.toL (gList nmStep (fun s => s.1.length) 6 41 f ([], []) l) := by
  unfold pPars gList
  split
  · rfl
  · exact par_is 5 [] l f (by simp) (by omega)

end Go.Proofs.YtijbiedblahmhaaDoor

namespace Go.Proofs.YtijbiedblahmhaaDoor
open Go.RowKit

set_option maxRecDepth 100000 in
set_option maxHeartbeats 12800000 in
theorem glist_emptyO (most : Nat) (en : UInt8) (c1 c2 : Value) (σ : Type) (I : σ → World → Prop) (P lo : Nat) (L : List Tok) (hI : ∀ (s : σ) (a b : World), I s a → But P a b → I s b) (t : Tok) (q : List Tok) (s : σ) (w : World) (hlw : lo ≤ w.heap.size)
    (H : Hid (PSt P L w (t :: q))) (HS : Hid (I s w)) (ht : isT t [en] = true) :
    Calls Tryd.prog 80 #[.pointer (some ⟨P, 0, none⟩), .int .i64 most, .string ⟨#[en]⟩, .func (.func 86) #[] #[c1, c2]] w (ReadsG I lo P L w (.ok s q)) := by
  have HT := hid (show isT t (⟨#[en]⟩ : ByteArray).data.toList = true from ht)
  have HI := hid hI
  clear ht hI
  go_enter Tryd.func80, Tryd.ntmps80
  go_wp2_with fail
  refine (take_yes P L t q ⟨#[en]⟩ _ H HT.out).mono ?_
  rintro e w1 ⟨rfl, s1, b1⟩
  have S1 := hid s1
  have I1 := hid (HI.out _ _ _ HS.out b1)
  have B1 := hid (ButLo.of (lo := lo) b1 hlw)
  clear s1 b1 H HS HT HI
  go_wp2_with fail
  go_end0
  exact ⟨rfl, I1.out, S1.out, B1.out⟩

set_option maxRecDepth 100000 in
set_option maxHeartbeats 12800000 in
theorem glist_oneO (most : Nat) (en : UInt8) (c1 c2 : Value) (σ : Type) (I : σ → World → Prop) (P lo : Nat) (L : List Tok) (hI : ∀ (s : σ) (a b : World), I s a → But P a b → I s b) (cnt : σ → Nat) (step : Nat → σ → List Tok → PG σ) (f : Nat) (hC : PartC 86 c1 c2 I cnt most step lo P L f) (l : List Tok) (s : σ) (w : World) (hf : 20 * l.length + 10 ≤ f) (hk : cnt s < most) (hlw : lo ≤ w.heap.size)
    (H : Hid (PSt P L w l)) (HS : Hid (I s w)) (hn : isH l [en] = false) (l1 : List Tok) (hq : step f s l = .bad l1) :
    Calls Tryd.prog 80 #[.pointer (some ⟨P, 0, none⟩), .int .i64 most, .string ⟨#[en]⟩, .func (.func 86) #[] #[c1, c2]] w (ReadsG I lo P L w (.bad l1)) := by
  have HN := hid (show isH l (⟨#[en]⟩ : ByteArray).data.toList = false from hn)
  have HC := hid hC
  have HI := hid hI
  clear hC hn hI
  go_enter Tryd.func80, Tryd.ntmps80
  go_wp2_with fail
  refine (take_no P L l ⟨#[en]⟩ _ H HN.out).mono ?_
  rintro e w1 ⟨rfl, b1⟩
  have S1 := hid (H.out.on b1)
  have I1 := hid (HI.out _ _ _ HS.out (But.of b1))
  have B1 := hid (ButLo.of (lo := lo) (But.of (P := P) b1) hlw)
  have hz1 := b1.size
  clear b1 H HS HN
  go_wp2_with fail
  have CC := HC.out s l w1 hf hk (by omega) S1 I1
  rw [hq] at CC
  refine CC.mono ?_
  rintro e w2 ⟨rfl, s2, b2⟩
  have S2 := hid s2
  have B2 := hid (B1.out.trans b2)
  clear s2 b2 CC S1 I1 B1 HC HI
  unfold gaveUp
  go_wp2_with fail
  exact ⟨rfl, rfl, S2.out, B2.out⟩

set_option maxRecDepth 100000 in
set_option maxHeartbeats 12800000 in
theorem glist_moreO (most : Nat) (en : UInt8) (c1 c2 : Value) (σ : Type) (I : σ → World → Prop) (P lo : Nat) (L : List Tok) (hI : ∀ (s : σ) (a b : World), I s a → But P a b → I s b) (cnt : σ → Nat) (step : Nat → σ → List Tok → PG σ) (f : Nat) (hmo : most ≤ 40) (hC : ∀ g, g ≤ f → PartC 86 c1 c2 I cnt most step lo P L g) (hL : ∀ (g : Nat) (s s' : σ) (l l' : List Tok) (w : World), PSt P L w l → step g s l = .ok s' l' → l'.length + 1 ≤ l.length ∧ cnt s' = cnt s + 1)
    (l : List Tok) (s : σ) (w : World) (hf : 20 * l.length + 10 ≤ f) (hk : cnt s = 0) (hm0 : 0 < most) (hlw : lo ≤ w.heap.size)
    (H : Hid (PSt P L w l)) (HS : Hid (I s w)) (hn : isH l [en] = false) (s1 : σ) (l1 : List Tok) (hq : step f s l = .ok s1 l1) :
    Calls Tryd.prog 80 #[.pointer (some ⟨P, 0, none⟩), .int .i64 most, .string ⟨#[en]⟩, .func (.func 86) #[] #[c1, c2]] w (ReadsG I lo P L w (gMore step cnt most en f s1 l1)) := by
  have HN := hid (show isH l (⟨#[en]⟩ : ByteArray).data.toList = false from hn)
  have HC := hid hC
  have HI := hid hI
  have HL := hid hL
  obtain ⟨hl1, hc1⟩ := hL f s s1 l l1 w H.out hq
  clear hC hn hI hL
  go_enter Tryd.func80, Tryd.ntmps80
  go_wp2_with fail
  refine (take_no P L l ⟨#[en]⟩ _ H HN.out).mono ?_
  rintro e w1 ⟨rfl, b1⟩
  have S1 := hid (H.out.on b1)
  have I1 := hid (HI.out _ _ _ HS.out (But.of b1))
  have B1 := hid (ButLo.of (lo := lo) (But.of (P := P) b1) hlw)
  have hz1 := b1.size
  clear b1 H HS HN
  go_wp2_with fail
  have CC := HC.out f (Nat.le_refl _) s l w1 hf (by omega) (by omega) S1 I1
  rw [hq] at CC
  refine CC.mono ?_
  rintro e w2 ⟨rfl, i2, s2, b2⟩
  have I2 := hid i2
  have S2 := hid s2
  have B2 := hid (B1.out.trans b2)
  clear i2 s2 b2 CC S1 I1 B1
  go_wp2_with fail
  go_loopw [8] (fun i wr => ∃ (g : Nat) (s' : σ) (m : List Tok) (n : Nat), Hid (gMore step cnt most en f s1 l1 = gMore step cnt most en g s' m) ∧ i = .int .i64 n ∧ n = cnt s' ∧ n ≤ most ∧ 20 * m.length + 25 ≤ g ∧ g ≤ f ∧ Hid (PSt P L wr m) ∧ Hid (I s' wr) ∧ Hid (ButLo lo P w wr)) (fun _ wr => leftAt P L wr)
  case atStart => exact ⟨f, s1, l1, 1, (show Hid (_ = _) from rfl), rfl, by omega, by omega, by omega, Nat.le_refl _, S2.out, I2.out, B2.out⟩
  case round =>
    obtain ⟨g, s', m, n, hE, rfl, hn, hnm, hgm, hgf, hS, hII, hB⟩ := hrel
    clear S2 I2 B2
    obtain ⟨g, rfl⟩ : ∃ g', g = g' + 2 := ⟨g - 2, by omega⟩
    have hzr := hB.out.size
    have LW := hid (left_is hS.out)
    by_cases h7 : n < most
    · by_cases h44 : isH m [44] = true
      · obtain ⟨u, z, rfl, hu⟩ := isH_some h44
        have HE := hid (hE.out.trans (gMore_more ⟨hn ▸ h7, h44⟩))
        have HU := hid hu
        have hzl : 20 * z.length + 10 ≤ g := by simp at hgm; omega
        clear hE h44 hu
        cases hq2 : step g s' z with
        | bad l3 =>
          rw [hq2] at HE
          go_wp2_with fail
          refine (take_yes P L u z ⟨#[44]⟩ _ hS HU.out).mono ?_
          rintro e w3 ⟨rfl, s3, b3⟩
          have S3 := hid s3
          have I3 := hid (HI.out _ _ _ hII.out b3)
          have B3 := hid (hB.out.trans (ButLo.of b3 (by omega)))
          have hz3 := b3.size
          clear s3 b3 hS hII hB HU LW
          go_wp2_with fail
          have CC := HC.out g (by omega) s' z w3 hzl (by omega) (by omega) S3 I3
          rw [hq2] at CC
          refine CC.mono ?_
          rintro e w4 ⟨rfl, s4, b4⟩
          have S4 := hid s4
          have B4 := hid (B3.out.trans b4)
          clear s4 b4 CC S3 I3 B3 HC
          unfold gaveUp
          go_wp2_with fail
          refine ⟨rfl, ?_⟩
          rw [HE.out]
          exact ⟨rfl, S4.out, B4.out⟩
        | ok s3' l3 =>
          have HL3 := hid (fun (w' : World) (S : PSt P L w' z) => HL.out g s' s3' z l3 w' S hq2)
          rw [hq2] at HE
          go_wp2_with fail
          refine (take_yes P L u z ⟨#[44]⟩ _ hS HU.out).mono ?_
          rintro e w3 ⟨rfl, s3, b3⟩
          obtain ⟨hl3, hc3⟩ := HL3.out w3 s3
          have S3 := hid s3
          have I3 := hid (HI.out _ _ _ hII.out b3)
          have B3 := hid (hB.out.trans (ButLo.of b3 (by omega)))
          have hz3 := b3.size
          clear s3 b3 hS hII hB HU HL3
          go_wp2_with fail
          have CC := HC.out g (by omega) s' z w3 hzl (by omega) (by omega) S3 I3
          rw [hq2] at CC
          refine CC.mono ?_
          rintro e w4 ⟨rfl, i4, s4, b4⟩
          have I4 := hid i4
          have S4 := hid s4
          have B4 := hid (B3.out.trans b4)
          have HLE := hid (show leftAt P L w4 < leftAt P L wr by rw [left_is s4, LW.out]; simp; omega)
          have HE4 := hid (HE.out.trans (PG.bind_ok s3' l3 _))
          clear i4 s4 b4 CC S3 I3 B3 HE LW
          go_wp2_with fail
          go_roundw
          case rel => exact ⟨g, s3', l3, n + 1, HE4.out, by go_num, by omega, by omega, by simp at hgm; omega, by omega, S4.out, I4.out, B4.out⟩
          case measure => exact HLE.out
      · have hE' := hE.out.trans (gMore_stop (fun h => h44 h.2))
        have H44 := hid (show isH m (⟨#[44]⟩ : ByteArray).data.toList = false by simpa using h44)
        clear hE h44 HC LW HL
        by_cases he : isH m [en] = true
        · obtain ⟨u, z, rfl, hu⟩ := isH_some he
          have HE := hid (hE'.trans (gEnd_yes he))
          have HU := hid (show isT u (⟨#[en]⟩ : ByteArray).data.toList = true from hu)
          clear hE' he hu
          go_wp2_with fail
          refine (take_no P L (u :: z) ⟨#[44]⟩ _ hS H44.out).mono ?_
          rintro e w4 ⟨rfl, b4⟩
          have S4 := hid (hS.out.on b4)
          have I4 := hid (HI.out _ _ _ hII.out (But.of b4))
          have B4 := hid (hB.out.trans (ButLo.of (But.of (P := P) b4) (by omega)))
          have hz4 := b4.size
          clear b4 H44
          go_wp2_with fail
          refine (must_yes P L u z ⟨#[en]⟩ _ S4 HU.out).mono ?_
          rintro e w5 ⟨rfl, s5, b5⟩
          have S5 := hid s5
          have I5 := hid (HI.out _ _ _ I4.out b5)
          have B5 := hid (B4.out.trans (ButLo.of b5 (by omega)))
          clear s5 b5
          go_wp2_with fail
          go_end0
          rw [HE.out]
          exact ⟨rfl, I5.out, S5.out, B5.out⟩
        · have HE := hid (hE'.trans (gEnd_no he))
          have HN := hid (show isH m (⟨#[en]⟩ : ByteArray).data.toList = false by simpa using he)
          clear hE' he
          go_wp2_with fail
          refine (take_no P L m ⟨#[44]⟩ _ hS H44.out).mono ?_
          rintro e w4 ⟨rfl, b4⟩
          have S4 := hid (hS.out.on b4)
          have I4 := hid (HI.out _ _ _ hII.out (But.of b4))
          have B4 := hid (hB.out.trans (ButLo.of (But.of (P := P) b4) (by omega)))
          have hz4 := b4.size
          clear b4 H44
          go_wp2_with fail
          refine (must_no P L m ⟨#[en]⟩ _ S4 HN.out).mono ?_
          rintro e w5 ⟨rfl, b5⟩
          have S5 := hid (S4.out.on b5)
          have B5 := hid (B4.out.trans (ButLo.of (But.of (P := P) b5) (by omega)))
          clear b5
          unfold gaveUp
          go_wp2_with fail
          refine ⟨rfl, ?_⟩
          rw [HE.out]
          exact ⟨rfl, S5.out, B5.out⟩
    · have hE' := hE.out.trans (gMore_stop (fun h => h7 (hn ▸ h.1)))
      clear hE HC LW HL
      by_cases he : isH m [en] = true
      · obtain ⟨u, z, rfl, hu⟩ := isH_some he
        have HE := hid (hE'.trans (gEnd_yes he))
        have HU := hid (show isT u (⟨#[en]⟩ : ByteArray).data.toList = true from hu)
        clear hE' he hu
        go_wp2_with fail
        refine (must_yes P L u z ⟨#[en]⟩ _ hS HU.out).mono ?_
        rintro e w5 ⟨rfl, s5, b5⟩
        have S5 := hid s5
        have I5 := hid (HI.out _ _ _ hII.out b5)
        have B5 := hid (hB.out.trans (ButLo.of b5 (by omega)))
        clear s5 b5
        go_wp2_with fail
        go_end0
        rw [HE.out]
        exact ⟨rfl, I5.out, S5.out, B5.out⟩
      · have HE := hid (hE'.trans (gEnd_no he))
        have HN := hid (show isH m (⟨#[en]⟩ : ByteArray).data.toList = false by simpa using he)
        clear hE' he
        go_wp2_with fail
        refine (must_no P L m ⟨#[en]⟩ _ hS HN.out).mono ?_
        rintro e w5 ⟨rfl, b5⟩
        have S5 := hid (hS.out.on b5)
        have B5 := hid (hB.out.trans (ButLo.of (But.of (P := P) b5) (by omega)))
        clear b5
        unfold gaveUp
        go_wp2_with fail
        refine ⟨rfl, ?_⟩
        rw [HE.out]
        exact ⟨rfl, S5.out, B5.out⟩

/-- a list as the document says -/
theorem glist_callsO (most : Nat) (en : UInt8) (c1 c2 : Value) (σ : Type) (I : σ → World → Prop) (P lo : Nat) (L : List Tok) (hI : ∀ (s : σ) (a b : World), I s a → But P a b → I s b) (cnt : σ → Nat) (step : Nat → σ → List Tok → PG σ) (f : Nat) (hmo : most ≤ 40) (hm0 : 0 < most) (hC : ∀ g, g ≤ f → PartC 86 c1 c2 I cnt most step lo P L g) (hL : ∀ (g : Nat) (s s' : σ) (l l' : List Tok) (w : World), PSt P L w l → step g s l = .ok s' l' → l'.length + 1 ≤ l.length ∧ cnt s' = cnt s + 1)
    (l : List Tok) (s : σ) (w : World) (hf : 20 * l.length + 10 ≤ f) (hk : cnt s = 0) (hlw : lo ≤ w.heap.size) (H : Hid (PSt P L w l)) (HS : Hid (I s w)) :
    Calls Tryd.prog 80 #[.pointer (some ⟨P, 0, none⟩), .int .i64 most, .string ⟨#[en]⟩, .func (.func 86) #[] #[c1, c2]] w (ReadsG I lo P L w (gList step cnt most en f s l)) := by
  unfold gList
  by_cases he : isH l [en] = true
  · obtain ⟨t, q, rfl, ht⟩ := isH_some he
    rw [if_pos he]
    exact glist_emptyO most en c1 c2 σ I P lo L hI t q s w hlw H HS ht
  · rw [if_neg he]
    cases hq : step f s l with
    | bad l1 =>
      rw [PG.bind_bad]
      exact glist_oneO most en c1 c2 σ I P lo L hI cnt step f (hC f (Nat.le_refl _)) l s w hf (by omega) hlw H HS (by simpa using he) l1 hq
    | ok s1 l1 =>
      rw [PG.bind_ok]
      exact glist_moreO most en c1 c2 σ I P lo L hI cnt step f hmo hC hL l s w hf hk hm0 hlw H HS (by simpa using he) s1 l1 hq

end Go.Proofs.YtijbiedblahmhaaDoor

namespace Go.Proofs.YtijbiedblahmhaaDoor
open Go.RowKit

theorem But.lo {P lo : Nat} {a b c : World} (h : But P a b) (k : ButLo lo P b c) (hl : a.heap.size ≤ lo) : But P a c :=
  ⟨k.os.trans h.os, k.tape.trans h.tape, k.output.trans h.output, Nat.le_trans h.size k.size, fun i h1 h2 => (k.block i (by omega) h2).trans (h.block i h1 h2)⟩
theorem blk_lo {P lo g : Nat} {T : TypeId} {cs : Array Value} {a c : World} (h : Blk g T cs a) (k : ButLo lo P a c) (hg : g < lo) (hp : g ≠ P) : Blk g T cs c := (k.block g hg hp).trans h
theorem ost_nil {P nb pb lo : Nat} {ok : Nat → Prop} {kd at_ : Int} {w : World} (h1 : Blk nb 26 #[.int .i64 kd, .int .i64 0, .int .i64 0, .string ⟨#[]⟩, .slice none 0 0, .slice none 0 0, .int .i64 at_] w) (h2 : Blk pb 32 #[.pointer (some ⟨P, 0, none⟩)] w) : OSt P nb pb lo ok kd at_ ([], []) w :=
  ⟨_, _, h1, h2, srow_nil _ _ _, krow_nil _ _ _⟩
/-- the node that was made, as an answer -/
theorem obj_fin {lo nb zb : Nat} {ok : Nat → Prop} {w : World} {nv kv : Value} {ns : List ByteArray} {ks : List Nd} (hb : ∀ b, ok b → lo ≤ b ∧ b ≠ zb) (M : SRow nb ok w nv ns) (R : KRow nb (OkN ok nv) w kv ks) (a b c d e f p : Value) :
    StR lo (put7w w zb a b c d e f p) nv ns ∧ KdR lo (put7w w zb a b c d e f p) kv ks := by
  have hs : (put7w w zb a b c d e f p).heap.size = w.heap.size := by simp [put7w, World.setCell]
  have AO := put7_aftO (ok := ok) (g := zb) w (fun h => (hb zb h).2 rfl) a b c d e f p
  exact ⟨strsW_keep (fun k hk => ⟨⟨(hb k hk.1).1, by rw [hs]; exact hk.2⟩, AO.block k hk.1 hk.2⟩) (srow_strs M), kidsW_keep (fun k hk => ⟨⟨(hb k hk.1.1).1, by rw [hs]; exact hk.2⟩, AO.block k hk.1.1 hk.2⟩) (krow_kids R)⟩

set_option maxRecDepth 100000 in
set_option maxHeartbeats 12800000 in
theorem obj_walk (P : Nat) (L l : List Tok) (w : World) (o : PG (List ByteArray × List Nd)) (H : Hid (PSt P L w l))
    (CC : Hid (Calls Tryd.prog 80 #[.pointer (some ⟨P, 0, none⟩), .int .i64 40, .string ⟨#[125]⟩, .func (.func 86) #[] #[.pointer (some ⟨w.heap.size + 1 + 1, 0, none⟩), .pointer (some ⟨w.heap.size, 0, none⟩)]] (((w.alloc (.cells #[.pointer (some ⟨P, 0, none⟩)] 32)).alloc (.cells #[.int .i64 0, .int .i64 0, .int .i64 0, .string ⟨#[]⟩, .slice none 0 0, .slice none 0 0, .int .i64 0] 26)).alloc (.cells #[.int .i64 7, .int .i64 0, .int .i64 0, .string ⟨#[]⟩, .slice none 0 0, .slice none 0 0, .int .i64 0] 26)) (ReadsG (OStO P (w.heap.size + 1 + 1) (w.heap.size) (w.heap.size + 1 + 1) (fun b => w.heap.size + 1 + 1 < b) 7 0) (w.heap.size + 1 + 1) P L (((w.alloc (.cells #[.pointer (some ⟨P, 0, none⟩)] 32)).alloc (.cells #[.int .i64 0, .int .i64 0, .int .i64 0, .string ⟨#[]⟩, .slice none 0 0, .slice none 0 0, .int .i64 0] 26)).alloc (.cells #[.int .i64 7, .int .i64 0, .int .i64 0, .string ⟨#[]⟩, .slice none 0 0, .slice none 0 0, .int .i64 0] 26)) o))) :
    Calls Tryd.prog 76 #[.pointer (some ⟨P, 0, none⟩)] w (Reads P L w ((PG.toL o).bind fun ns ks l => .ok (.mk 7 0 0 bz ns ks 0) false l)) := by
  have hP := H.out.lt
  have A1 := (Below.refl _ w).alloc (Nat.le_refl _) (.cells #[.pointer (some ⟨P, 0, none⟩)] 32)
  have A2 := (Below.refl _ (w.alloc (.cells #[.pointer (some ⟨P, 0, none⟩)] 32))).alloc (Nat.le_refl _) (.cells #[.int .i64 0, .int .i64 0, .int .i64 0, .string ⟨#[]⟩, .slice none 0 0, .slice none 0 0, .int .i64 0] 26)
  have A3 := (Below.refl _ ((w.alloc (.cells #[.pointer (some ⟨P, 0, none⟩)] 32)).alloc (.cells #[.int .i64 0, .int .i64 0, .int .i64 0, .string ⟨#[]⟩, .slice none 0 0, .slice none 0 0, .int .i64 0] 26))).alloc (Nat.le_refl _) (.cells #[.int .i64 7, .int .i64 0, .int .i64 0, .string ⟨#[]⟩, .slice none 0 0, .slice none 0 0, .int .i64 0] 26)
  have S3 := hid (((H.out.on A1).on A2).on A3)
  have Q3 := hid (blk_on (blk_on (blk_new w 32 #[.pointer (some ⟨P, 0, none⟩)]) A2) A3)
  have Z3 := hid (show Blk (w.heap.size + 1) 26 #[.int .i64 0, .int .i64 0, .int .i64 0, .string ⟨#[]⟩, .slice none 0 0, .slice none 0 0, .int .i64 0] (((w.alloc (.cells #[.pointer (some ⟨P, 0, none⟩)] 32)).alloc (.cells #[.int .i64 0, .int .i64 0, .int .i64 0, .string ⟨#[]⟩, .slice none 0 0, .slice none 0 0, .int .i64 0] 26)).alloc (.cells #[.int .i64 7, .int .i64 0, .int .i64 0, .string ⟨#[]⟩, .slice none 0 0, .slice none 0 0, .int .i64 0] 26)) from by
    have := blk_on (blk_new (w.alloc (.cells #[.pointer (some ⟨P, 0, none⟩)] 32)) 26 #[.int .i64 0, .int .i64 0, .int .i64 0, .string ⟨#[]⟩, .slice none 0 0, .slice none 0 0, .int .i64 0]) A3
    simpa using this)
  have K3 := hid (show Blk (w.heap.size + 1 + 1) 26 #[.int .i64 7, .int .i64 0, .int .i64 0, .string ⟨#[]⟩, .slice none 0 0, .slice none 0 0, .int .i64 0] (((w.alloc (.cells #[.pointer (some ⟨P, 0, none⟩)] 32)).alloc (.cells #[.int .i64 0, .int .i64 0, .int .i64 0, .string ⟨#[]⟩, .slice none 0 0, .slice none 0 0, .int .i64 0] 26)).alloc (.cells #[.int .i64 7, .int .i64 0, .int .i64 0, .string ⟨#[]⟩, .slice none 0 0, .slice none 0 0, .int .i64 0] 26)) from by
    have := blk_new ((w.alloc (.cells #[.pointer (some ⟨P, 0, none⟩)] 32)).alloc (.cells #[.int .i64 0, .int .i64 0, .int .i64 0, .string ⟨#[]⟩, .slice none 0 0, .slice none 0 0, .int .i64 0] 26)) 26 #[.int .i64 7, .int .i64 0, .int .i64 0, .string ⟨#[]⟩, .slice none 0 0, .slice none 0 0, .int .i64 0]
    simpa using this)
  have B3 := hid (((But.of (P := P) A1).trans (But.of A2)).trans (But.of A3))
  have C : C1 P (w.heap.size + 1 + 1) (w.heap.size) (w.heap.size + 1 + 1) (fun b => w.heap.size + 1 + 1 < b) := ⟨by omega, Nat.le_refl _, hP, by omega, by omega, by omega, by omega, fun b h1 h2 => h1⟩
  clear A1 A2 A3
  clear H C Q3 K3
  cases o with
  | bad l' =>
    go_enter Tryd.func76, Tryd.ntmps76
    go_wp2_with fail
    refine CC.out.mono ?_
    rintro e w1 ⟨rfl, s1, b1⟩
    have S1 := hid s1
    have B1 := hid (B3.out.lo b1 (by omega))
    clear s1 b1 CC
    unfold gaveUp
    go_wp2_with fail
    exact ⟨rfl, rfl, S1.out, B1.out⟩
  | ok s l' =>
    go_enter Tryd.func76, Tryd.ntmps76
    go_wp2_with fail
    refine CC.out.mono ?_
    rintro e w1 ⟨rfl, ⟨hlen, nv, kv, k1, q1, m1, r1⟩, s1, b1⟩
    clear hlen
    obtain ⟨f1, g1, rfl⟩ := srow_shape m1
    obtain ⟨f2, g2, rfl⟩ := krow_shape r1
    have S1 := hid s1
    have B1 := hid (B3.out.lo b1 (by omega))
    have Z1 := hid (blk_lo Z3.out b1 (by omega) (by omega))
    have K1 := hid k1
    have M1 := hid m1
    have R1 := hid r1
    clear s1 b1 k1 q1 m1 r1 CC S3 B3 Z3
    obtain ⟨c0, c1, c2, c3, c4, c5, c6⟩ := cells7 K1.out
    obtain ⟨r0, r1, r2, r3, r4, r5, r6⟩ := cells7 Z1.out
    obtain ⟨u0, u1, u2, u3, u4, u5, u6⟩ := frees7 Z1.out
    have hg9 := blk_lt Z1.out
    have hv9 := blk_lt K1.out
    go_wp2_with fail
    have Z := fin_put hP (Nat.le_succ _) S1.out B1.out Z1.out (.int .i64 7) (.int .i64 0) (.int .i64 0) (.string ⟨#[]⟩) (.slice f1 s.1.length g1) (.slice f2 s.2.length g2) (.int .i64 0)
    exact bodyPost_ret (ret_nd rfl rfl Z.1) rfl ⟨⟨_, _, rfl, ndR_mk2 (obj_fin (fun b hb => ⟨by omega, by omega⟩) M1.out R1.out _ _ _ _ _ _ _)⟩, Z.2.1, Z.2.2⟩

theorem obj_calls (f : Nat) (hR : ∀ g, g ≤ f → RankC g) : ObjC (f + 2) := by
  intro P L l w hf H
  unfold pObjN
  rw [obj_is]
  refine obj_walk P L l w _ H ?_
  have hP := H.out.lt
  have A1 := (Below.refl _ w).alloc (Nat.le_refl _) (.cells #[.pointer (some ⟨P, 0, none⟩)] 32)
  have A2 := (Below.refl _ (w.alloc (.cells #[.pointer (some ⟨P, 0, none⟩)] 32))).alloc (Nat.le_refl _) (.cells #[.int .i64 0, .int .i64 0, .int .i64 0, .string ⟨#[]⟩, .slice none 0 0, .slice none 0 0, .int .i64 0] 26)
  have A3 := (Below.refl _ ((w.alloc (.cells #[.pointer (some ⟨P, 0, none⟩)] 32)).alloc (.cells #[.int .i64 0, .int .i64 0, .int .i64 0, .string ⟨#[]⟩, .slice none 0 0, .slice none 0 0, .int .i64 0] 26))).alloc (Nat.le_refl _) (.cells #[.int .i64 7, .int .i64 0, .int .i64 0, .string ⟨#[]⟩, .slice none 0 0, .slice none 0 0, .int .i64 0] 26)
  have S3 := hid (((H.out.on A1).on A2).on A3)
  have Q3 := hid (blk_on (blk_on (blk_new w 32 #[.pointer (some ⟨P, 0, none⟩)]) A2) A3)
  have Z3 := hid (show Blk (w.heap.size + 1) 26 #[.int .i64 0, .int .i64 0, .int .i64 0, .string ⟨#[]⟩, .slice none 0 0, .slice none 0 0, .int .i64 0] (((w.alloc (.cells #[.pointer (some ⟨P, 0, none⟩)] 32)).alloc (.cells #[.int .i64 0, .int .i64 0, .int .i64 0, .string ⟨#[]⟩, .slice none 0 0, .slice none 0 0, .int .i64 0] 26)).alloc (.cells #[.int .i64 7, .int .i64 0, .int .i64 0, .string ⟨#[]⟩, .slice none 0 0, .slice none 0 0, .int .i64 0] 26)) from by
    have := blk_on (blk_new (w.alloc (.cells #[.pointer (some ⟨P, 0, none⟩)] 32)) 26 #[.int .i64 0, .int .i64 0, .int .i64 0, .string ⟨#[]⟩, .slice none 0 0, .slice none 0 0, .int .i64 0]) A3
    simpa using this)
  have K3 := hid (show Blk (w.heap.size + 1 + 1) 26 #[.int .i64 7, .int .i64 0, .int .i64 0, .string ⟨#[]⟩, .slice none 0 0, .slice none 0 0, .int .i64 0] (((w.alloc (.cells #[.pointer (some ⟨P, 0, none⟩)] 32)).alloc (.cells #[.int .i64 0, .int .i64 0, .int .i64 0, .string ⟨#[]⟩, .slice none 0 0, .slice none 0 0, .int .i64 0] 26)).alloc (.cells #[.int .i64 7, .int .i64 0, .int .i64 0, .string ⟨#[]⟩, .slice none 0 0, .slice none 0 0, .int .i64 0] 26)) from by
    have := blk_new ((w.alloc (.cells #[.pointer (some ⟨P, 0, none⟩)] 32)).alloc (.cells #[.int .i64 0, .int .i64 0, .int .i64 0, .string ⟨#[]⟩, .slice none 0 0, .slice none 0 0, .int .i64 0] 26)) 26 #[.int .i64 7, .int .i64 0, .int .i64 0, .string ⟨#[]⟩, .slice none 0 0, .slice none 0 0, .int .i64 0]
    simpa using this)
  have B3 := hid (((But.of (P := P) A1).trans (But.of A2)).trans (But.of A3))
  have C : C1 P (w.heap.size + 1 + 1) (w.heap.size) (w.heap.size + 1 + 1) (fun b => w.heap.size + 1 + 1 < b) := ⟨by omega, Nat.le_refl _, hP, by omega, by omega, by omega, by omega, fun b h1 h2 => h1⟩
  clear A1 A2 A3
  exact hid (glist_callsO 40 125 _ _ _ (OStO P (w.heap.size + 1 + 1) (w.heap.size) (w.heap.size + 1 + 1) (fun b => w.heap.size + 1 + 1 < b) 7 0) P (w.heap.size + 1 + 1) L (fun s a b h k => ⟨h.1, ost_but C s a b h.2 k⟩) (fun s => s.2.length) obStep f (by omega) (by omega) (fun g hg => ob1_calls g (hR g hg) P _ _ _ L _ C 7 0) (fun g s s' l l' w' S h => ob1_less P L g s s' l l' w' S h) l ([], []) _ (by omega) rfl (by simp) S3 (hid ⟨rfl, ost_nil K3.out Q3.out⟩))

end Go.Proofs.YtijbiedblahmhaaDoor

namespace Go.Proofs.YtijbiedblahmhaaDoor
open Go.RowKit

set_option maxRecDepth 100000 in
set_option maxHeartbeats 12800000 in
theorem glist_emptyF (most : Nat) (en : UInt8) (c1 c2 : Value) (σ : Type) (I : σ → World → Prop) (P lo : Nat) (L : List Tok) (hI : ∀ (s : σ) (a b : World), I s a → But P a b → I s b) (t : Tok) (q : List Tok) (s : σ) (w : World) (hlw : lo ≤ w.heap.size)
    (H : Hid (PSt P L w (t :: q))) (HS : Hid (I s w)) (ht : isT t [en] = true) :
    Calls Tryd.prog 80 #[.pointer (some ⟨P, 0, none⟩), .int .i64 most, .string ⟨#[en]⟩, .func (.func 87) #[] #[c1, c2]] w (ReadsG I lo P L w (.ok s q)) := by
  have HT := hid (show isT t (⟨#[en]⟩ : ByteArray).data.toList = true from ht)
  have HI := hid hI
  clear ht hI
  go_enter Tryd.func80, Tryd.ntmps80
  go_wp2_with fail
  refine (take_yes P L t q ⟨#[en]⟩ _ H HT.out).mono ?_
  rintro e w1 ⟨rfl, s1, b1⟩
  have S1 := hid s1
  have I1 := hid (HI.out _ _ _ HS.out b1)
  have B1 := hid (ButLo.of (lo := lo) b1 hlw)
  clear s1 b1 H HS HT HI
  go_wp2_with fail
  go_end0
  exact ⟨rfl, I1.out, S1.out, B1.out⟩

set_option maxRecDepth 100000 in
set_option maxHeartbeats 12800000 in
theorem glist_oneF (most : Nat) (en : UInt8) (c1 c2 : Value) (σ : Type) (I : σ → World → Prop) (P lo : Nat) (L : List Tok) (hI : ∀ (s : σ) (a b : World), I s a → But P a b → I s b) (cnt : σ → Nat) (step : Nat → σ → List Tok → PG σ) (f : Nat) (hC : PartC 87 c1 c2 I cnt most step lo P L f) (l : List Tok) (s : σ) (w : World) (hf : 20 * l.length + 10 ≤ f) (hk : cnt s < most) (hlw : lo ≤ w.heap.size)
    (H : Hid (PSt P L w l)) (HS : Hid (I s w)) (hn : isH l [en] = false) (l1 : List Tok) (hq : step f s l = .bad l1) :
    Calls Tryd.prog 80 #[.pointer (some ⟨P, 0, none⟩), .int .i64 most, .string ⟨#[en]⟩, .func (.func 87) #[] #[c1, c2]] w (ReadsG I lo P L w (.bad l1)) := by
  have HN := hid (show isH l (⟨#[en]⟩ : ByteArray).data.toList = false from hn)
  have HC := hid hC
  have HI := hid hI
  clear hC hn hI
  go_enter Tryd.func80, Tryd.ntmps80
  go_wp2_with fail
  refine (take_no P L l ⟨#[en]⟩ _ H HN.out).mono ?_
  rintro e w1 ⟨rfl, b1⟩
  have S1 := hid (H.out.on b1)
  have I1 := hid (HI.out _ _ _ HS.out (But.of b1))
  have B1 := hid (ButLo.of (lo := lo) (But.of (P := P) b1) hlw)
  have hz1 := b1.size
  clear b1 H HS HN
  go_wp2_with fail
  have CC := HC.out s l w1 hf hk (by omega) S1 I1
  rw [hq] at CC
  refine CC.mono ?_
  rintro e w2 ⟨rfl, s2, b2⟩
  have S2 := hid s2
  have B2 := hid (B1.out.trans b2)
  clear s2 b2 CC S1 I1 B1 HC HI
  unfold gaveUp
  go_wp2_with fail
  exact ⟨rfl, rfl, S2.out, B2.out⟩

set_option maxRecDepth 100000 in
set_option maxHeartbeats 12800000 in
theorem glist_moreF (most : Nat) (en : UInt8) (c1 c2 : Value) (σ : Type) (I : σ → World → Prop) (P lo : Nat) (L : List Tok) (hI : ∀ (s : σ) (a b : World), I s a → But P a b → I s b) (cnt : σ → Nat) (step : Nat → σ → List Tok → PG σ) (f : Nat) (hmo : most ≤ 40) (hC : ∀ g, g ≤ f → PartC 87 c1 c2 I cnt most step lo P L g) (hL : ∀ (g : Nat) (s s' : σ) (l l' : List Tok) (w : World), PSt P L w l → step g s l = .ok s' l' → l'.length + 1 ≤ l.length ∧ cnt s' = cnt s + 1)
    (l : List Tok) (s : σ) (w : World) (hf : 20 * l.length + 10 ≤ f) (hk : cnt s = 0) (hm0 : 0 < most) (hlw : lo ≤ w.heap.size)
    (H : Hid (PSt P L w l)) (HS : Hid (I s w)) (hn : isH l [en] = false) (s1 : σ) (l1 : List Tok) (hq : step f s l = .ok s1 l1) :
    Calls Tryd.prog 80 #[.pointer (some ⟨P, 0, none⟩), .int .i64 most, .string ⟨#[en]⟩, .func (.func 87) #[] #[c1, c2]] w (ReadsG I lo P L w (gMore step cnt most en f s1 l1)) := by
  have HN := hid (show isH l (⟨#[en]⟩ : ByteArray).data.toList = false from hn)
  have HC := hid hC
  have HI := hid hI
  have HL := hid hL
  obtain ⟨hl1, hc1⟩ := hL f s s1 l l1 w H.out hq
  clear hC hn hI hL
  go_enter Tryd.func80, Tryd.ntmps80
  go_wp2_with fail
  refine (take_no P L l ⟨#[en]⟩ _ H HN.out).mono ?_
  rintro e w1 ⟨rfl, b1⟩
  have S1 := hid (H.out.on b1)
  have I1 := hid (HI.out _ _ _ HS.out (But.of b1))
  have B1 := hid (ButLo.of (lo := lo) (But.of (P := P) b1) hlw)
  have hz1 := b1.size
  clear b1 H HS HN
  go_wp2_with fail
  have CC := HC.out f (Nat.le_refl _) s l w1 hf (by omega) (by omega) S1 I1
  rw [hq] at CC
  refine CC.mono ?_
  rintro e w2 ⟨rfl, i2, s2, b2⟩
  have I2 := hid i2
  have S2 := hid s2
  have B2 := hid (B1.out.trans b2)
  clear i2 s2 b2 CC S1 I1 B1
  go_wp2_with fail
  go_loopw [8] (fun i wr => ∃ (g : Nat) (s' : σ) (m : List Tok) (n : Nat), Hid (gMore step cnt most en f s1 l1 = gMore step cnt most en g s' m) ∧ i = .int .i64 n ∧ n = cnt s' ∧ n ≤ most ∧ 20 * m.length + 25 ≤ g ∧ g ≤ f ∧ Hid (PSt P L wr m) ∧ Hid (I s' wr) ∧ Hid (ButLo lo P w wr)) (fun _ wr => leftAt P L wr)
  case atStart => exact ⟨f, s1, l1, 1, (show Hid (_ = _) from rfl), rfl, by omega, by omega, by omega, Nat.le_refl _, S2.out, I2.out, B2.out⟩
  case round =>
    obtain ⟨g, s', m, n, hE, rfl, hn, hnm, hgm, hgf, hS, hII, hB⟩ := hrel
    clear S2 I2 B2
    obtain ⟨g, rfl⟩ : ∃ g', g = g' + 2 := ⟨g - 2, by omega⟩
    have hzr := hB.out.size
    have LW := hid (left_is hS.out)
    by_cases h7 : n < most
    · by_cases h44 : isH m [44] = true
      · obtain ⟨u, z, rfl, hu⟩ := isH_some h44
        have HE := hid (hE.out.trans (gMore_more ⟨hn ▸ h7, h44⟩))
        have HU := hid hu
        have hzl : 20 * z.length + 10 ≤ g := by simp at hgm; omega
        clear hE h44 hu
        cases hq2 : step g s' z with
        | bad l3 =>
          rw [hq2] at HE
          go_wp2_with fail
          refine (take_yes P L u z ⟨#[44]⟩ _ hS HU.out).mono ?_
          rintro e w3 ⟨rfl, s3, b3⟩
          have S3 := hid s3
          have I3 := hid (HI.out _ _ _ hII.out b3)
          have B3 := hid (hB.out.trans (ButLo.of b3 (by omega)))
          have hz3 := b3.size
          clear s3 b3 hS hII hB HU LW
          go_wp2_with fail
          have CC := HC.out g (by omega) s' z w3 hzl (by omega) (by omega) S3 I3
          rw [hq2] at CC
          refine CC.mono ?_
          rintro e w4 ⟨rfl, s4, b4⟩
          have S4 := hid s4
          have B4 := hid (B3.out.trans b4)
          clear s4 b4 CC S3 I3 B3 HC
          unfold gaveUp
          go_wp2_with fail
          refine ⟨rfl, ?_⟩
          rw [HE.out]
          exact ⟨rfl, S4.out, B4.out⟩
        | ok s3' l3 =>
          have HL3 := hid (fun (w' : World) (S : PSt P L w' z) => HL.out g s' s3' z l3 w' S hq2)
          rw [hq2] at HE
          go_wp2_with fail
          refine (take_yes P L u z ⟨#[44]⟩ _ hS HU.out).mono ?_
          rintro e w3 ⟨rfl, s3, b3⟩
          obtain ⟨hl3, hc3⟩ := HL3.out w3 s3
          have S3 := hid s3
          have I3 := hid (HI.out _ _ _ hII.out b3)
          have B3 := hid (hB.out.trans (ButLo.of b3 (by omega)))
          have hz3 := b3.size
          clear s3 b3 hS hII hB HU HL3
          go_wp2_with fail
          have CC := HC.out g (by omega) s' z w3 hzl (by omega) (by omega) S3 I3
          rw [hq2] at CC
          refine CC.mono ?_
          rintro e w4 ⟨rfl, i4, s4, b4⟩
          have I4 := hid i4
          have S4 := hid s4
          have B4 := hid (B3.out.trans b4)
          have HLE := hid (show leftAt P L w4 < leftAt P L wr by rw [left_is s4, LW.out]; simp; omega)
          have HE4 := hid (HE.out.trans (PG.bind_ok s3' l3 _))
          clear i4 s4 b4 CC S3 I3 B3 HE LW
          go_wp2_with fail
          go_roundw
          case rel => exact ⟨g, s3', l3, n + 1, HE4.out, by go_num, by omega, by omega, by simp at hgm; omega, by omega, S4.out, I4.out, B4.out⟩
          case measure => exact HLE.out
      · have hE' := hE.out.trans (gMore_stop (fun h => h44 h.2))
        have H44 := hid (show isH m (⟨#[44]⟩ : ByteArray).data.toList = false by simpa using h44)
        clear hE h44 HC LW HL
        by_cases he : isH m [en] = true
        · obtain ⟨u, z, rfl, hu⟩ := isH_some he
          have HE := hid (hE'.trans (gEnd_yes he))
          have HU := hid (show isT u (⟨#[en]⟩ : ByteArray).data.toList = true from hu)
          clear hE' he hu
          go_wp2_with fail
          refine (take_no P L (u :: z) ⟨#[44]⟩ _ hS H44.out).mono ?_
          rintro e w4 ⟨rfl, b4⟩
          have S4 := hid (hS.out.on b4)
          have I4 := hid (HI.out _ _ _ hII.out (But.of b4))
          have B4 := hid (hB.out.trans (ButLo.of (But.of (P := P) b4) (by omega)))
          have hz4 := b4.size
          clear b4 H44
          go_wp2_with fail
          refine (must_yes P L u z ⟨#[en]⟩ _ S4 HU.out).mono ?_
          rintro e w5 ⟨rfl, s5, b5⟩
          have S5 := hid s5
          have I5 := hid (HI.out _ _ _ I4.out b5)
          have B5 := hid (B4.out.trans (ButLo.of b5 (by omega)))
          clear s5 b5
          go_wp2_with fail
          go_end0
          rw [HE.out]
          exact ⟨rfl, I5.out, S5.out, B5.out⟩
        · have HE := hid (hE'.trans (gEnd_no he))
          have HN := hid (show isH m (⟨#[en]⟩ : ByteArray).data.toList = false by simpa using he)
          clear hE' he
          go_wp2_with fail
          refine (take_no P L m ⟨#[44]⟩ _ hS H44.out).mono ?_
          rintro e w4 ⟨rfl, b4⟩
          have S4 := hid (hS.out.on b4)
          have I4 := hid (HI.out _ _ _ hII.out (But.of b4))
          have B4 := hid (hB.out.trans (ButLo.of (But.of (P := P) b4) (by omega)))
          have hz4 := b4.size
          clear b4 H44
          go_wp2_with fail
          refine (must_no P L m ⟨#[en]⟩ _ S4 HN.out).mono ?_
          rintro e w5 ⟨rfl, b5⟩
          have S5 := hid (S4.out.on b5)
          have B5 := hid (B4.out.trans (ButLo.of (But.of (P := P) b5) (by omega)))
          clear b5
          unfold gaveUp
          go_wp2_with fail
          refine ⟨rfl, ?_⟩
          rw [HE.out]
          exact ⟨rfl, S5.out, B5.out⟩
    · have hE' := hE.out.trans (gMore_stop (fun h => h7 (hn ▸ h.1)))
      clear hE HC LW HL
      by_cases he : isH m [en] = true
      · obtain ⟨u, z, rfl, hu⟩ := isH_some he
        have HE := hid (hE'.trans (gEnd_yes he))
        have HU := hid (show isT u (⟨#[en]⟩ : ByteArray).data.toList = true from hu)
        clear hE' he hu
        go_wp2_with fail
        refine (must_yes P L u z ⟨#[en]⟩ _ hS HU.out).mono ?_
        rintro e w5 ⟨rfl, s5, b5⟩
        have S5 := hid s5
        have I5 := hid (HI.out _ _ _ hII.out b5)
        have B5 := hid (hB.out.trans (ButLo.of b5 (by omega)))
        clear s5 b5
        go_wp2_with fail
        go_end0
        rw [HE.out]
        exact ⟨rfl, I5.out, S5.out, B5.out⟩
      · have HE := hid (hE'.trans (gEnd_no he))
        have HN := hid (show isH m (⟨#[en]⟩ : ByteArray).data.toList = false by simpa using he)
        clear hE' he
        go_wp2_with fail
        refine (must_no P L m ⟨#[en]⟩ _ hS HN.out).mono ?_
        rintro e w5 ⟨rfl, b5⟩
        have S5 := hid (hS.out.on b5)
        have B5 := hid (hB.out.trans (ButLo.of (But.of (P := P) b5) (by omega)))
        clear b5
        unfold gaveUp
        go_wp2_with fail
        refine ⟨rfl, ?_⟩
        rw [HE.out]
        exact ⟨rfl, S5.out, B5.out⟩

/-- a list as the document says -/
theorem glist_callsF (most : Nat) (en : UInt8) (c1 c2 : Value) (σ : Type) (I : σ → World → Prop) (P lo : Nat) (L : List Tok) (hI : ∀ (s : σ) (a b : World), I s a → But P a b → I s b) (cnt : σ → Nat) (step : Nat → σ → List Tok → PG σ) (f : Nat) (hmo : most ≤ 40) (hm0 : 0 < most) (hC : ∀ g, g ≤ f → PartC 87 c1 c2 I cnt most step lo P L g) (hL : ∀ (g : Nat) (s s' : σ) (l l' : List Tok) (w : World), PSt P L w l → step g s l = .ok s' l' → l'.length + 1 ≤ l.length ∧ cnt s' = cnt s + 1)
    (l : List Tok) (s : σ) (w : World) (hf : 20 * l.length + 10 ≤ f) (hk : cnt s = 0) (hlw : lo ≤ w.heap.size) (H : Hid (PSt P L w l)) (HS : Hid (I s w)) :
    Calls Tryd.prog 80 #[.pointer (some ⟨P, 0, none⟩), .int .i64 most, .string ⟨#[en]⟩, .func (.func 87) #[] #[c1, c2]] w (ReadsG I lo P L w (gList step cnt most en f s l)) := by
  unfold gList
  by_cases he : isH l [en] = true
  · obtain ⟨t, q, rfl, ht⟩ := isH_some he
    rw [if_pos he]
    exact glist_emptyF most en c1 c2 σ I P lo L hI t q s w hlw H HS ht
  · rw [if_neg he]
    cases hq : step f s l with
    | bad l1 =>
      rw [PG.bind_bad]
      exact glist_oneF most en c1 c2 σ I P lo L hI cnt step f (hC f (Nat.le_refl _)) l s w hf (by omega) hlw H HS (by simpa using he) l1 hq
    | ok s1 l1 =>
      rw [PG.bind_ok]
      exact glist_moreF most en c1 c2 σ I P lo L hI cnt step f hmo hC hL l s w hf hk hm0 hlw H HS (by simpa using he) s1 l1 hq

end Go.Proofs.YtijbiedblahmhaaDoor
