/- One parameter more. -/
import Derived.Test.YtijbiedblahmhaaDoorJoint8
import Derived.Test.YtijbiedblahmhaaDoorPsGen
namespace Go.Proofs.YtijbiedblahmhaaDoor
open Go.RowKit

/-- what a list's closure holds: a node with names and kids that grow, and the parser -/
def OSt (P nb pb lo : Nat) (ok : Nat → Prop) (kd at_ : Int) (s : List ByteArray × List Nd) (w : World) : Prop :=
  ∃ nv kv, Blk nb 26 #[.int .i64 kd, .int .i64 0, .int .i64 0, .string ⟨#[]⟩, nv, kv, .int .i64 at_] w ∧ Blk pb 32 #[.pointer (some ⟨P, 0, none⟩)] w ∧ SRow lo ok w nv s.1 ∧ KRow lo (OkN ok nv) w kv s.2
theorem ost_but {P nb pb lo : Nat} {ok : Nat → Prop} {kd at_ : Int} (C : C1 P nb pb lo ok) (s : List ByteArray × List Nd) (a b : World) (h : OSt P nb pb lo ok kd at_ s a) (k : But P a b) : OSt P nb pb lo ok kd at_ s b := by
  obtain ⟨nv, kv, h1, h2, h3, h4⟩ := h
  have := C.k
  have := C.q
  have := C.p
  exact ⟨nv, kv, blk_but h1 k (by omega), blk_but h2 k (by omega), srow_but h3 k C.np, krow_but h4 k (fun h => C.np h.1)⟩
def nmStep (_ : Nat) (s : List ByteArray × List Nd) (l : List Tok) : PG (List ByteArray × List Nd) := if isW false l then .ok (s.1 ++ [(cur l).text], s.2) l.tail else .bad l

set_option linter.unusedSimpArgs false in
set_option linter.unusedVariables false in
set_option maxRecDepth 100000 in
set_option maxHeartbeats 12800000 in
theorem fn1_no (P nb pb lo : Nat) (L : List Tok) (ok : Nat → Prop) (C : C1 P nb pb lo ok) (kd at_ : Int) (ns : List ByteArray) (ks : List Nd) (kv nv : Value) (w : World) (hkl : ns.length ≤ 40) (hlw : lo ≤ w.heap.size) (l : List Tok) (HW : Hid (isW false l = false)) (H : Hid (PSt P L w l))
    (HK : Hid (Blk nb 26 #[.int .i64 kd, .int .i64 0, .int .i64 0, .string ⟨#[]⟩, nv, kv, .int .i64 at_] w)) (HQ : Hid (Blk pb 32 #[.pointer (some ⟨P, 0, none⟩)] w)) (HM : Hid (SRow lo ok w nv ns)) (HR : Hid (KRow lo (OkN ok nv) w kv ks)) :
    Calls Tryd.prog 87 #[.pointer (some ⟨nb, 0, none⟩), .pointer (some ⟨pb, 0, none⟩)] w (ReadsG (OSt P nb pb lo ok kd at_) lo P L w (.bad l)) := by
  obtain ⟨ao, cap, rfl⟩ := srow_shape HM.out
  have DR := (Below.refl w.heap.size w).drew
  have S0 := hid (H.out.on DR)
  have K0 := hid (blk_on HK.out DR)
  have Q0 := hid (blk_on HQ.out DR)
  have M0 := hid (srow_below HM.out DR)
  have R0 := hid (krow_below HR.out DR)
  have B0 := hid (ButLo.of (lo := lo) (But.of (P := P) DR) hlw)
  have hkP : P < nb := by have := C.k; have := C.p; omega
  have hqP : P < pb := by have := C.q; have := C.p; omega
  have hP : P < lo := C.p
  clear H HK HQ HM HR DR
  go_enter Tryd.func87, Tryd.ntmps87
  go_wp2_with fail
  refine wp_region_held_drew (S := (fun a => a.cell? ⟨pb, 0, none⟩ = some (.pointer (some ⟨P, 0, none⟩)))) (by kernel_rfl) ?_ (fun hHeld => ?_)
  · exact (blk_cell Q0.out 0).trans rfl
  obtain ⟨w0, hw0⟩ : ∃ w0, w.drew = w0 := ⟨_, rfl⟩
  rw [hw0] at hHeld S0 K0 Q0 M0 R0 B0 ⊢
  have hz0 : w.heap.size = w0.heap.size := by rw [← hw0]; rfl
  clear hw0
  refine wpAnyH_take (i := 0) (v := ?vk16) rfl (by kernel_rfl) (by kernel_rfl) (by kernel_rfl) (fun _ _ _ h => h) (Or.inl ⟨by rfl, ?hyk16⟩) (by assumption) ?_
  case hyk16 => (intro w hSw; go_simp <;> (try with_reducible rfl))
  simp only [Act.put, List.setIfInBounds_toArray, List.set_cons_zero, List.set_cons_succ, List.getElem_toArray, List.getElem_cons_succ, List.getElem_cons_zero]
  refine wpAnyH_take (i := 2) (v := ?vk17) rfl (by kernel_rfl) (by kernel_rfl) (by kernel_rfl) (fun _ _ _ h => h) (Or.inl ⟨by rfl, ?hyk17⟩) (by assumption) ?_
  case hyk17 => (intro w hSw; go_simp <;> (try with_reducible rfl))
  simp only [Act.put, List.setIfInBounds_toArray, List.set_cons_zero, List.set_cons_succ, List.getElem_toArray, List.getElem_cons_succ, List.getElem_cons_zero]
  refine wpAnyH_ready (rs := [1, 3]) (by kernel_rfl) (by simp) ?_
  refine AllReadyH.cons rfl (fun K hK => ?_) (AllReadyH.cons rfl (fun K hK => ?_) AllReadyH.nil)
  · have HK := hid hK
    clear hK
    have k0 := blk_cell K0.out 4
    simp at k0
    go_simp
    refine HK.out.out _ _ ?_ (fun hHeld => ?_)
    · exact (blk_cell Q0.out 0).trans rfl
    clear HK K k0
    refine wpAnyH_ready (rs := [3]) (by kernel_rfl) (by simp) ?_
    refine AllReadyH.cons rfl (fun K hK => ?_) AllReadyH.nil
    · clear hK
      go_simp
      refine (name_no P L l _ S0 HW.out).mono ?_
      rintro e3 w1 ⟨rfl, b3⟩
      have S1 := hid (S0.out.on b3)
      have B1 := hid (B0.out.trans (ButLo.of (But.of (P := P) b3) (by have := B0.out.size; omega)))
      clear b3
      unfold gaveUp
      go_wp2_with fail
      exact ⟨rfl, rfl, S1.out, B1.out⟩
  · clear hK
    go_simp
    refine (name_no P L l _ S0 HW.out).mono ?_
    rintro e3 w2 ⟨rfl, b3⟩
    have S2 := hid (S0.out.on b3)
    have B2 := hid (B0.out.trans (ButLo.of (But.of (P := P) b3) (by have := B0.out.size; omega)))
    clear b3
    unfold gaveUp
    go_wp2_with fail
    exact ⟨rfl, rfl, S2.out, B2.out⟩

set_option linter.unusedSimpArgs false in
set_option linter.unusedVariables false in
set_option maxRecDepth 100000 in
set_option maxHeartbeats 12800000 in
theorem fn1_yes (P nb pb lo : Nat) (L : List Tok) (ok : Nat → Prop) (C : C1 P nb pb lo ok) (kd at_ : Int) (ns : List ByteArray) (ks : List Nd) (kv nv : Value) (w : World) (hkl : ns.length ≤ 40) (hlw : lo ≤ w.heap.size) (t : Tok) (q : List Tok) (HW : Hid (t.kind = 1)) (H : Hid (PSt P L w (t :: q)))
    (HK : Hid (Blk nb 26 #[.int .i64 kd, .int .i64 0, .int .i64 0, .string ⟨#[]⟩, nv, kv, .int .i64 at_] w)) (HQ : Hid (Blk pb 32 #[.pointer (some ⟨P, 0, none⟩)] w)) (HM : Hid (SRow lo ok w nv ns)) (HR : Hid (KRow lo (OkN ok nv) w kv ks)) :
    Calls Tryd.prog 87 #[.pointer (some ⟨nb, 0, none⟩), .pointer (some ⟨pb, 0, none⟩)] w (ReadsG (OSt P nb pb lo ok kd at_) lo P L w (.ok (ns ++ [t.text], ks) q)) := by
  obtain ⟨ao, cap, rfl⟩ := srow_shape HM.out
  have DR := (Below.refl w.heap.size w).drew
  have S0 := hid (H.out.on DR)
  have K0 := hid (blk_on HK.out DR)
  have Q0 := hid (blk_on HQ.out DR)
  have M0 := hid (srow_below HM.out DR)
  have R0 := hid (krow_below HR.out DR)
  have B0 := hid (ButLo.of (lo := lo) (But.of (P := P) DR) hlw)
  have hkP : P < nb := by have := C.k; have := C.p; omega
  have hqP : P < pb := by have := C.q; have := C.p; omega
  have hP : P < lo := C.p
  clear H HK HQ HM HR DR
  go_enter Tryd.func87, Tryd.ntmps87
  go_wp2_with fail
  refine wp_region_held_drew (S := (fun a => a.cell? ⟨pb, 0, none⟩ = some (.pointer (some ⟨P, 0, none⟩)))) (by kernel_rfl) ?_ (fun hHeld => ?_)
  · exact (blk_cell Q0.out 0).trans rfl
  obtain ⟨w0, hw0⟩ : ∃ w0, w.drew = w0 := ⟨_, rfl⟩
  rw [hw0] at hHeld S0 K0 Q0 M0 R0 B0 ⊢
  have hz0 : w.heap.size = w0.heap.size := by rw [← hw0]; rfl
  clear hw0
  refine wpAnyH_take (i := 0) (v := ?vk18) rfl (by kernel_rfl) (by kernel_rfl) (by kernel_rfl) (fun _ _ _ h => h) (Or.inl ⟨by rfl, ?hyk18⟩) (by assumption) ?_
  case hyk18 => (intro w hSw; go_simp <;> (try with_reducible rfl))
  simp only [Act.put, List.setIfInBounds_toArray, List.set_cons_zero, List.set_cons_succ, List.getElem_toArray, List.getElem_cons_succ, List.getElem_cons_zero]
  refine wpAnyH_take (i := 2) (v := ?vk19) rfl (by kernel_rfl) (by kernel_rfl) (by kernel_rfl) (fun _ _ _ h => h) (Or.inl ⟨by rfl, ?hyk19⟩) (by assumption) ?_
  case hyk19 => (intro w hSw; go_simp <;> (try with_reducible rfl))
  simp only [Act.put, List.setIfInBounds_toArray, List.set_cons_zero, List.set_cons_succ, List.getElem_toArray, List.getElem_cons_succ, List.getElem_cons_zero]
  refine wpAnyH_ready (rs := [1, 3]) (by kernel_rfl) (by simp) ?_
  refine AllReadyH.cons rfl (fun K hK => ?_) (AllReadyH.cons rfl (fun K hK => ?_) AllReadyH.nil)
  · have HK := hid hK
    clear hK
    have k0 := blk_cell K0.out 4
    simp at k0
    go_simp
    refine HK.out.out _ _ ?_ (fun hHeld => ?_)
    · exact (blk_cell Q0.out 0).trans rfl
    clear HK K k0
    refine wpAnyH_ready (rs := [3]) (by kernel_rfl) (by simp) ?_
    refine AllReadyH.cons rfl (fun K hK => ?_) AllReadyH.nil
    · have HK := hid hK
      clear hK
      go_simp
      refine (name_yes P L t q _ S0 HW.out).mono ?_
      rintro e3 w1 ⟨rfl, s3, b3⟩
      have S1 := hid s3
      have K1 := hid (blk_but K0.out b3 (by omega))
      have Q1 := hid (blk_but Q0.out b3 (by omega))
      have M1 := hid (srow_but M0.out b3 C.np)
      have R1 := hid (krow_but R0.out b3 (fun h => C.np h.1))
      have B1 := hid (B0.out.trans (ButLo.of b3 (by have := B0.out.size; omega)))
      have hz1 : w0.heap.size ≤ w1.heap.size := b3.size
      clear s3 b3 S0 K0 Q0 M0 R0 B0
      refine HK.out.out _ _ ?_ (fun hHeld => ?_)
      · exact (blk_cell Q1.out 0).trans rfl
      clear HK K
      refine wpAnyH_ready (rs := [4]) (by kernel_rfl) (by simp) ?_
      refine AllReadyH.cons rfl (fun K hK => ?_) AllReadyH.nil
      · have HK := hid hK
        clear hK
        go_simp
        have AZ := (Below.refl _ w1).alloc (Nat.le_refl _) (.cells #[.string t.text] 9)
        have Y2 := hid (blk_new w1 9 #[.string t.text])
        have S2 := hid (S1.out.on AZ)
        have K2 := hid (blk_on K1.out AZ)
        have Q2 := hid (blk_on Q1.out AZ)
        have M2 := hid (srow_below M1.out AZ)
        have R2 := hid (krow_below R1.out AZ)
        have B2 := hid (B1.out.trans (ButLo.of (But.of (P := P) AZ) (by have := B1.out.size; omega)))
        obtain ⟨w2, hw2⟩ : ∃ w2, w1.alloc (.cells #[.string t.text] 9) = w2 := ⟨_, rfl⟩
        rw [hw2] at AZ Y2 S2 K2 Q2 M2 R2 B2 ⊢
        have hz2 : w2.heap.size = w1.heap.size + 1 := by rw [← hw2]; simp
        refine HK.out.out _ _ ?_ (fun hHeld => ?_)
        · exact (blk_cell Q2.out 0).trans rfl
        clear HK K AZ hw2 S1 K1 Q1 M1 R1 B1
        refine wpAnyH_ready (rs := [5]) (by kernel_rfl) (by simp) ?_
        refine AllReadyH.cons rfl (fun K hK => ?_) AllReadyH.nil
        have HK := hid hK
        clear hK
        obtain ⟨i0, hi, hz0, hz1, hz2⟩ := infoS
        have hsz := B2.out.size
        refine step_append_lies _ rfl _ _ 23 rfl lo 9 i0 _ 1 16 underS hi hz0 hz1 hz2 rfl (by decide) (.slice ao ns.length cap) _ (ns.map Value.string) (by rfl) M2.out.1 ⟨w1.heap.size, 0, none⟩ 1 1 [.string t.text] (by rfl) rfl (sl_cells Y2.out) sl_one (by decide) (by unfold maxLen; omega) (by omega) (by omega) _ rfl ?_
        intro g cap2 w3 hown' hgrow hat hlt
        have S3 := hid (pst_low S2.out (grown_low hgrow (by omega) (fun k hk => by have := (srow_own M2.out k hk).2.1; omega)))
        have K3 := hid (blk_grown K2.out hgrow (fun e => C.nk ((srow_own M2.out _ e.symm).1)))
        have Q3 := hid (blk_grown Q2.out hgrow (fun e => C.nq ((srow_own M2.out _ e.symm).1)))
        have B3 := hid (B2.out.trans (ButLo.grown hgrow (by omega) (fun k hk => (srow_own M2.out k hk).2.1)))
        have PU := sput hown' hgrow hat M2.out R2.out (C.up _ (blk_lt K2.out) (blk_lt Q2.out)) (by omega) (blk_lt K2.out) (blk_lt Q2.out) C.nk C.nq
        obtain ⟨m3, r3, hgl, hgk, hgp⟩ := PU
        have M3 := hid m3
        have R3 := hid r3
        clear hi hz0 hz1 hz2 i0 hown' hgrow hat hlt m3 r3 Y2 S2 K2 Q2 M2 R2 B2
        refine HK.out.out _ _ ?_ (fun hHeld => ?_)
        · exact (blk_cell Q3.out 0).trans rfl
        clear HK K
        refine wpAnyH_take (i := 6) (v := ?vk20) rfl (by kernel_rfl) (by kernel_rfl) (by kernel_rfl) (fun _ _ _ h => h) (Or.inl ⟨by rfl, ?hyk20⟩) (by assumption) ?_
        case hyk20 => (intro w hSw; go_simp <;> (try with_reducible rfl))
        simp only [Act.put, List.setIfInBounds_toArray, List.set_cons_zero, List.set_cons_succ, List.getElem_toArray, List.getElem_cons_succ, List.getElem_cons_zero]
        refine wpAnyH_ready (rs := [7]) (by kernel_rfl) (by simp) ?_
        refine AllReadyH.cons rfl (fun K hK => ?_) AllReadyH.nil
        have HK := hid hK
        clear hK
        have k4 := blk_cell K3.out 4
        have z4 := blk_free K3.out 4
        simp at k4
        go_simp
        have hqk : pb ≠ nb := Ne.symm C.ne
        have K5 := hid (blk_set K3.out 4 (.slice (some ⟨g, 0, none⟩) (ns.length + 1) cap2))
        have Q5 := hid (show Blk pb 32 #[.pointer (some ⟨P, 0, none⟩)] (w3.setCell ⟨nb, 4, none⟩ (.slice (some ⟨g, 0, none⟩) (ns.length + 1) cap2)) from (Below.heap_setCell _ _ _ _ hqk).trans Q3.out)
        have S5 := hid (pst_set S3.out (i := 4) hkP (.slice (some ⟨g, 0, none⟩) (ns.length + 1) cap2))
        have M5 := hid (srow_keep (c := w3.setCell ⟨nb, 4, none⟩ (.slice (some ⟨g, 0, none⟩) (ns.length + 1) cap2)) M3.out (fun b hb => Below.heap_setCell _ _ _ _ (fun e => C.nk (by have := (srow_own M3.out b hb).1; rw [show b = nb from e] at this; exact this))))
        have R5 := hid (krow_keep (c := w3.setCell ⟨nb, 4, none⟩ (.slice (some ⟨g, 0, none⟩) (ns.length + 1) cap2)) R3.out (by simp [World.setCell]) (fun b hb _ => Below.heap_setCell _ _ _ _ (fun e => C.nk (by have := hb.1; rw [show b = nb from e] at this; exact this))))
        have B5 := hid (B3.out.trans (ButLo.set w3 (i := 4) (.slice (some ⟨g, 0, none⟩) (ns.length + 1) cap2) C.k))
        refine HK.out.out _ _ ?_ (fun hHeld => ?_)
        · exact (blk_cell Q5.out 0).trans rfl
        clear HK K S3 K3 Q3 M3 R3 B3 k4 z4
        simp at K5
        refine wpAnyH_done (by kernel_rfl) ?_ _
        go_end0
        exact ⟨rfl, ⟨_, _, K5.out, Q5.out, M5.out, R5.out⟩, S5.out, B5.out⟩
  · have HK := hid hK
    clear hK
    go_simp
    refine (name_yes P L t q _ S0 HW.out).mono ?_
    rintro e3 w4 ⟨rfl, s3, b3⟩
    have S4 := hid s3
    have K4 := hid (blk_but K0.out b3 (by omega))
    have Q4 := hid (blk_but Q0.out b3 (by omega))
    have M4 := hid (srow_but M0.out b3 C.np)
    have R4 := hid (krow_but R0.out b3 (fun h => C.np h.1))
    have B4 := hid (B0.out.trans (ButLo.of b3 (by have := B0.out.size; omega)))
    have hz4 : w0.heap.size ≤ w4.heap.size := b3.size
    clear s3 b3 S0 K0 Q0 M0 R0 B0
    refine HK.out.out _ _ ?_ (fun hHeld => ?_)
    · exact (blk_cell Q4.out 0).trans rfl
    clear HK K
    refine wpAnyH_ready (rs := [1, 4]) (by kernel_rfl) (by simp) ?_
    refine AllReadyH.cons rfl (fun K hK => ?_) (AllReadyH.cons rfl (fun K hK => ?_) AllReadyH.nil)
    · have HK := hid hK
      clear hK
      have k0 := blk_cell K4.out 4
      simp at k0
      go_simp
      refine HK.out.out _ _ ?_ (fun hHeld => ?_)
      · exact (blk_cell Q4.out 0).trans rfl
      clear HK K k0
      refine wpAnyH_ready (rs := [4]) (by kernel_rfl) (by simp) ?_
      refine AllReadyH.cons rfl (fun K hK => ?_) AllReadyH.nil
      · have HK := hid hK
        clear hK
        go_simp
        have AZ := (Below.refl _ w4).alloc (Nat.le_refl _) (.cells #[.string t.text] 9)
        have Y5 := hid (blk_new w4 9 #[.string t.text])
        have S5 := hid (S4.out.on AZ)
        have K5 := hid (blk_on K4.out AZ)
        have Q5 := hid (blk_on Q4.out AZ)
        have M5 := hid (srow_below M4.out AZ)
        have R5 := hid (krow_below R4.out AZ)
        have B5 := hid (B4.out.trans (ButLo.of (But.of (P := P) AZ) (by have := B4.out.size; omega)))
        obtain ⟨w5, hw5⟩ : ∃ w5, w4.alloc (.cells #[.string t.text] 9) = w5 := ⟨_, rfl⟩
        rw [hw5] at AZ Y5 S5 K5 Q5 M5 R5 B5 ⊢
        have hz5 : w5.heap.size = w4.heap.size + 1 := by rw [← hw5]; simp
        refine HK.out.out _ _ ?_ (fun hHeld => ?_)
        · exact (blk_cell Q5.out 0).trans rfl
        clear HK K AZ hw5 S4 K4 Q4 M4 R4 B4
        refine wpAnyH_ready (rs := [5]) (by kernel_rfl) (by simp) ?_
        refine AllReadyH.cons rfl (fun K hK => ?_) AllReadyH.nil
        have HK := hid hK
        clear hK
        obtain ⟨i0, hi, hz0, hz1, hz2⟩ := infoS
        have hsz := B5.out.size
        refine step_append_lies _ rfl _ _ 23 rfl lo 9 i0 _ 1 16 underS hi hz0 hz1 hz2 rfl (by decide) (.slice ao ns.length cap) _ (ns.map Value.string) (by rfl) M5.out.1 ⟨w4.heap.size, 0, none⟩ 1 1 [.string t.text] (by rfl) rfl (sl_cells Y5.out) sl_one (by decide) (by unfold maxLen; omega) (by omega) (by omega) _ rfl ?_
        intro g cap2 w6 hown' hgrow hat hlt
        have S6 := hid (pst_low S5.out (grown_low hgrow (by omega) (fun k hk => by have := (srow_own M5.out k hk).2.1; omega)))
        have K6 := hid (blk_grown K5.out hgrow (fun e => C.nk ((srow_own M5.out _ e.symm).1)))
        have Q6 := hid (blk_grown Q5.out hgrow (fun e => C.nq ((srow_own M5.out _ e.symm).1)))
        have B6 := hid (B5.out.trans (ButLo.grown hgrow (by omega) (fun k hk => (srow_own M5.out k hk).2.1)))
        have PU := sput hown' hgrow hat M5.out R5.out (C.up _ (blk_lt K5.out) (blk_lt Q5.out)) (by omega) (blk_lt K5.out) (blk_lt Q5.out) C.nk C.nq
        obtain ⟨m3, r3, hgl, hgk, hgp⟩ := PU
        have M6 := hid m3
        have R6 := hid r3
        clear hi hz0 hz1 hz2 i0 hown' hgrow hat hlt m3 r3 Y5 S5 K5 Q5 M5 R5 B5
        refine HK.out.out _ _ ?_ (fun hHeld => ?_)
        · exact (blk_cell Q6.out 0).trans rfl
        clear HK K
        refine wpAnyH_take (i := 6) (v := ?vk21) rfl (by kernel_rfl) (by kernel_rfl) (by kernel_rfl) (fun _ _ _ h => h) (Or.inl ⟨by rfl, ?hyk21⟩) (by assumption) ?_
        case hyk21 => (intro w hSw; go_simp <;> (try with_reducible rfl))
        simp only [Act.put, List.setIfInBounds_toArray, List.set_cons_zero, List.set_cons_succ, List.getElem_toArray, List.getElem_cons_succ, List.getElem_cons_zero]
        refine wpAnyH_ready (rs := [7]) (by kernel_rfl) (by simp) ?_
        refine AllReadyH.cons rfl (fun K hK => ?_) AllReadyH.nil
        have HK := hid hK
        clear hK
        have k4 := blk_cell K6.out 4
        have z4 := blk_free K6.out 4
        simp at k4
        go_simp
        have hqk : pb ≠ nb := Ne.symm C.ne
        have K5 := hid (blk_set K6.out 4 (.slice (some ⟨g, 0, none⟩) (ns.length + 1) cap2))
        have Q5 := hid (show Blk pb 32 #[.pointer (some ⟨P, 0, none⟩)] (w6.setCell ⟨nb, 4, none⟩ (.slice (some ⟨g, 0, none⟩) (ns.length + 1) cap2)) from (Below.heap_setCell _ _ _ _ hqk).trans Q6.out)
        have S5 := hid (pst_set S6.out (i := 4) hkP (.slice (some ⟨g, 0, none⟩) (ns.length + 1) cap2))
        have M5 := hid (srow_keep (c := w6.setCell ⟨nb, 4, none⟩ (.slice (some ⟨g, 0, none⟩) (ns.length + 1) cap2)) M6.out (fun b hb => Below.heap_setCell _ _ _ _ (fun e => C.nk (by have := (srow_own M6.out b hb).1; rw [show b = nb from e] at this; exact this))))
        have R5 := hid (krow_keep (c := w6.setCell ⟨nb, 4, none⟩ (.slice (some ⟨g, 0, none⟩) (ns.length + 1) cap2)) R6.out (by simp [World.setCell]) (fun b hb _ => Below.heap_setCell _ _ _ _ (fun e => C.nk (by have := hb.1; rw [show b = nb from e] at this; exact this))))
        have B5 := hid (B6.out.trans (ButLo.set w6 (i := 4) (.slice (some ⟨g, 0, none⟩) (ns.length + 1) cap2) C.k))
        refine HK.out.out _ _ ?_ (fun hHeld => ?_)
        · exact (blk_cell Q5.out 0).trans rfl
        clear HK K S6 K6 Q6 M6 R6 B6 k4 z4
        simp at K5
        refine wpAnyH_done (by kernel_rfl) ?_ _
        go_end0
        exact ⟨rfl, ⟨_, _, K5.out, Q5.out, M5.out, R5.out⟩, S5.out, B5.out⟩
    · have HK := hid hK
      clear hK
      go_simp
      have AZ := (Below.refl _ w4).alloc (Nat.le_refl _) (.cells #[.string t.text] 9)
      have Y7 := hid (blk_new w4 9 #[.string t.text])
      have S7 := hid (S4.out.on AZ)
      have K7 := hid (blk_on K4.out AZ)
      have Q7 := hid (blk_on Q4.out AZ)
      have M7 := hid (srow_below M4.out AZ)
      have R7 := hid (krow_below R4.out AZ)
      have B7 := hid (B4.out.trans (ButLo.of (But.of (P := P) AZ) (by have := B4.out.size; omega)))
      obtain ⟨w7, hw7⟩ : ∃ w7, w4.alloc (.cells #[.string t.text] 9) = w7 := ⟨_, rfl⟩
      rw [hw7] at AZ Y7 S7 K7 Q7 M7 R7 B7 ⊢
      have hz7 : w7.heap.size = w4.heap.size + 1 := by rw [← hw7]; simp
      refine HK.out.out _ _ ?_ (fun hHeld => ?_)
      · exact (blk_cell Q7.out 0).trans rfl
      clear HK K AZ hw7 S4 K4 Q4 M4 R4 B4
      refine wpAnyH_ready (rs := [1]) (by kernel_rfl) (by simp) ?_
      refine AllReadyH.cons rfl (fun K hK => ?_) AllReadyH.nil
      · have HK := hid hK
        clear hK
        have k0 := blk_cell K7.out 4
        simp at k0
        go_simp
        refine HK.out.out _ _ ?_ (fun hHeld => ?_)
        · exact (blk_cell Q7.out 0).trans rfl
        clear HK K k0
        refine wpAnyH_ready (rs := [5]) (by kernel_rfl) (by simp) ?_
        refine AllReadyH.cons rfl (fun K hK => ?_) AllReadyH.nil
        have HK := hid hK
        clear hK
        obtain ⟨i0, hi, hz0, hz1, hz2⟩ := infoS
        have hsz := B7.out.size
        refine step_append_lies _ rfl _ _ 23 rfl lo 9 i0 _ 1 16 underS hi hz0 hz1 hz2 rfl (by decide) (.slice ao ns.length cap) _ (ns.map Value.string) (by rfl) M7.out.1 ⟨w4.heap.size, 0, none⟩ 1 1 [.string t.text] (by rfl) rfl (sl_cells Y7.out) sl_one (by decide) (by unfold maxLen; omega) (by omega) (by omega) _ rfl ?_
        intro g cap2 w8 hown' hgrow hat hlt
        have S8 := hid (pst_low S7.out (grown_low hgrow (by omega) (fun k hk => by have := (srow_own M7.out k hk).2.1; omega)))
        have K8 := hid (blk_grown K7.out hgrow (fun e => C.nk ((srow_own M7.out _ e.symm).1)))
        have Q8 := hid (blk_grown Q7.out hgrow (fun e => C.nq ((srow_own M7.out _ e.symm).1)))
        have B8 := hid (B7.out.trans (ButLo.grown hgrow (by omega) (fun k hk => (srow_own M7.out k hk).2.1)))
        have PU := sput hown' hgrow hat M7.out R7.out (C.up _ (blk_lt K7.out) (blk_lt Q7.out)) (by omega) (blk_lt K7.out) (blk_lt Q7.out) C.nk C.nq
        obtain ⟨m3, r3, hgl, hgk, hgp⟩ := PU
        have M8 := hid m3
        have R8 := hid r3
        clear hi hz0 hz1 hz2 i0 hown' hgrow hat hlt m3 r3 Y7 S7 K7 Q7 M7 R7 B7
        refine HK.out.out _ _ ?_ (fun hHeld => ?_)
        · exact (blk_cell Q8.out 0).trans rfl
        clear HK K
        refine wpAnyH_take (i := 6) (v := ?vk22) rfl (by kernel_rfl) (by kernel_rfl) (by kernel_rfl) (fun _ _ _ h => h) (Or.inl ⟨by rfl, ?hyk22⟩) (by assumption) ?_
        case hyk22 => (intro w hSw; go_simp <;> (try with_reducible rfl))
        simp only [Act.put, List.setIfInBounds_toArray, List.set_cons_zero, List.set_cons_succ, List.getElem_toArray, List.getElem_cons_succ, List.getElem_cons_zero]
        refine wpAnyH_ready (rs := [7]) (by kernel_rfl) (by simp) ?_
        refine AllReadyH.cons rfl (fun K hK => ?_) AllReadyH.nil
        have HK := hid hK
        clear hK
        have k4 := blk_cell K8.out 4
        have z4 := blk_free K8.out 4
        simp at k4
        go_simp
        have hqk : pb ≠ nb := Ne.symm C.ne
        have K5 := hid (blk_set K8.out 4 (.slice (some ⟨g, 0, none⟩) (ns.length + 1) cap2))
        have Q5 := hid (show Blk pb 32 #[.pointer (some ⟨P, 0, none⟩)] (w8.setCell ⟨nb, 4, none⟩ (.slice (some ⟨g, 0, none⟩) (ns.length + 1) cap2)) from (Below.heap_setCell _ _ _ _ hqk).trans Q8.out)
        have S5 := hid (pst_set S8.out (i := 4) hkP (.slice (some ⟨g, 0, none⟩) (ns.length + 1) cap2))
        have M5 := hid (srow_keep (c := w8.setCell ⟨nb, 4, none⟩ (.slice (some ⟨g, 0, none⟩) (ns.length + 1) cap2)) M8.out (fun b hb => Below.heap_setCell _ _ _ _ (fun e => C.nk (by have := (srow_own M8.out b hb).1; rw [show b = nb from e] at this; exact this))))
        have R5 := hid (krow_keep (c := w8.setCell ⟨nb, 4, none⟩ (.slice (some ⟨g, 0, none⟩) (ns.length + 1) cap2)) R8.out (by simp [World.setCell]) (fun b hb _ => Below.heap_setCell _ _ _ _ (fun e => C.nk (by have := hb.1; rw [show b = nb from e] at this; exact this))))
        have B5 := hid (B8.out.trans (ButLo.set w8 (i := 4) (.slice (some ⟨g, 0, none⟩) (ns.length + 1) cap2) C.k))
        refine HK.out.out _ _ ?_ (fun hHeld => ?_)
        · exact (blk_cell Q5.out 0).trans rfl
        clear HK K S8 K8 Q8 M8 R8 B8 k4 z4
        simp at K5
        refine wpAnyH_done (by kernel_rfl) ?_ _
        go_end0
        exact ⟨rfl, ⟨_, _, K5.out, Q5.out, M5.out, R5.out⟩, S5.out, B5.out⟩

theorem isW_false {l : List Tok} : isW false l = true ↔ (cur l).kind = 1 := by simp [isW]
theorem fn1_calls (P nb pb lo : Nat) (L : List Tok) (ok : Nat → Prop) (C : C1 P nb pb lo ok) (kd at_ : Int) (g : Nat) :
    PartC 87 (.pointer (some ⟨nb, 0, none⟩)) (.pointer (some ⟨pb, 0, none⟩)) (OSt P nb pb lo ok kd at_) (fun s => s.1.length) 6 nmStep lo P L g := by
  rintro ⟨ns, ks⟩ l w hf hc hlw H ⟨nv, kv, h1, h2, h3, h4⟩
  simp only at hc h3 h4
  unfold nmStep
  by_cases hw : isW false l = true
  · rw [if_pos hw]
    cases l with
    | nil => exact absurd rfl H.out.ne
    | cons t q => exact fn1_yes P nb pb lo L ok C kd at_ ns ks kv nv w (by omega) hlw t q (hid (isW_false.1 hw)) H (hid h1) (hid h2) (hid h3) (hid h4)
  · rw [if_neg hw]
    exact fn1_no P nb pb lo L ok C kd at_ ns ks kv nv w (by omega) hlw l (hid (by simpa using hw)) H (hid h1) (hid h2) (hid h3) (hid h4)
theorem fn1_less (g : Nat) (s s' : List ByteArray × List Nd) (l l' : List Tok) (hne : l ≠ []) (h : nmStep g s l = .ok s' l') : l'.length + 1 ≤ l.length ∧ s'.1.length = s.1.length + 1 := by
  unfold nmStep at h
  split at h
  · injection h with h1 h2
    subst h1 h2
    cases l with
    | nil => exact absurd rfl hne
    | cons t q => simp
  · cases h

end Go.Proofs.YtijbiedblahmhaaDoor
