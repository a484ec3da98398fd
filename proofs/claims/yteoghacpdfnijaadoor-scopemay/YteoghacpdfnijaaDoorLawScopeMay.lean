/- What is resolved may be: of any tree of at most 300 nodes, at most 40 high, with texts of at most 600 bytes and at most 60 names of at most 100 bytes (else the law asks its own test alone), Resolve tells an error and a unit without globals and functions, or a unit that Check finds right, with one function more than the tree has: ScopeMay is true for every input; no condition. -/
import Derived.Test.YteoghacpdfnijaaDoorTreeLaid
import Derived.Test.YteoghacpdfnijaaDoorNdOpen
import Derived.Test.YteoghacpdfnijaaDoorJoint3
import Derived.Test.YteoghacpdfnijaaDoorScWorks
import Derived.Test.YteoghacpdfnijaaDoorScCheck
import Derived.Test.YteoghacpdfnijaaDoorScCount
import Derived.Test.YteoghacpdfnijaaDoorRows
import Derived.WalkKit
import Derived.ProofKit
import Derived.OpenShut
import Derived.ShutString
import Derived.ChangeOld
import Derived.Below
import Derived.Test.YteoghacpdfnijaaDoorTie
import Derived.Test.YteoghacpdfnijaaDoorCards
import Derived.SevenTiedAt
import Derived.Stop.Joined
import Derived.Carry
namespace Go.Proofs.YteoghacpdfnijaaDoor.scopeMay
open Go.ChangeShapes Go.WideShapes Go.ChangeAt Go.RowKit
open Go.ChangeMaps (open_string shut_string)
set_option linter.unusedVariables false

theorem own : ownKnob Tryd.prog.godebug = none := by kernel_rfl

set_option linter.unusedSimpArgs false
/-- the tree that came lies in its box, the table lies there still -/
theorem box_read {B g : Nat} {t : Nd} {nv kv : Value} {w : World} (h : Blk g 25 #[.int .i64 t.kind, .int .i64 t.op, .int .i64 t.num, .string t.str, nv, kv, .int .i64 t.pl] w) :
    w.cell? ⟨g, 0, none⟩ = some (.int .i64 t.kind) ∧ w.cell? ⟨g, 1, none⟩ = some (.int .i64 t.op) ∧ w.cell? ⟨g, 2, none⟩ = some (.int .i64 t.num) ∧ w.cell? ⟨g, 3, none⟩ = some (.string t.str) ∧ w.cell? ⟨g, 4, none⟩ = some nv ∧ w.cell? ⟨g, 5, none⟩ = some kv ∧ w.cell? ⟨g, 6, none⟩ = some (.int .i64 t.pl) :=
  ⟨(blk_cell h 0).trans rfl, (blk_cell h 1).trans rfl, (blk_cell h 2).trans rfl, (blk_cell h 3).trans rfl, (blk_cell h 4).trans rfl, (blk_cell h 5).trans rfl, (blk_cell h 6).trans rfl⟩
theorem fnsIn_up {B C : Nat} {v : Value} {fs : List Fq} {w : World} (hB : B ≤ C) (h : FnsIn B w v fs) : FnsIn C w v fs := by
  rcases h with h | ⟨b, off, cap, h1, h2, h3, h4⟩
  · exact .inl h
  · refine .inr ⟨b, off, cap, h1, by omega, fun i f hi => ?_, h4⟩
    obtain ⟨kv, g1, g2, g3, g4⟩ := h3 i f hi
    exact ⟨kv, g1, g2, g3, kidsIn_up hB g4⟩
theorem resolveP_bad {t : Nd} {p e : Int} (h : resolveP t = .bad p e) : e ≠ 0 := by
  rw [resolveP_mk] at h
  split at h
  · exact wholeP_bad h
  · rename_i hc
    cases h
    exact hc
theorem resolve_few {t : Nd} {G : Nat} {fs : List Fp} (h : resolveP t = .ok (G, fs)) (hs : smallN t = true) (hc : countN t ≤ 300) : FineF 300 fs := by
  unfold resolveP at h
  split at h
  · unfold wholeP at h
    cases h1 : letL t.kids [] with
    | bad q e => rw [h1] at h; cases h
    | ok gl =>
      rw [h1, Rz.bind_ok] at h
      cases h2 : resL gl t.kids [] [(0, 0, [])] with
      | bad q e => rw [h2] at h; cases h
      | ok q2 =>
        rw [h2, Rz.bind_ok] at h
        cases h
        obtain ⟨k, o, n, s, ns, ks, p⟩ := t
        have hck : countL ks ≤ 300 := by rw [countN] at hc; omega
        obtain ⟨g1, g2, g3⟩ := resL_fine ks h2 (small_parts hs) hck (N := 300) (fun f hf => by simp at hf; subst hf; exact ⟨Nat.zero_le _, fun x hx => by cases hx⟩)
        have hl := countL_len q2.1
        have hq : countL q2.1 ≤ 300 := by omega
        exact fineF_set g3 ⟨by simp only; omega, fun x hx => ⟨smallL_mem g1 x hx, Nat.le_trans (count_mem hx) hq⟩⟩
  · cases h
theorem few_parts {N : Nat} : ∀ {l : List Nd}, (∀ x ∈ l, smallN x = true ∧ countN x ≤ N) → smallL l = true ∧ countL l ≤ N * l.length
  | [], _ => ⟨by rw [smallL], by rw [countL]; omega⟩
  | x :: r, h => by
    obtain ⟨h1, h2⟩ := few_parts (l := r) (fun y hy => h y (by simp [hy]))
    obtain ⟨h3, h4⟩ := h x (by simp)
    refine ⟨by rw [smallL, h3, h1]; rfl, ?_⟩
    rw [countL, List.length_cons, Nat.mul_add, Nat.mul_one]
    omega
theorem fewU_of {fs : List Fp} (h : FineF 300 fs) (hl : fs.length ≤ 32) : FewU (fqs fs) := by
  refine ⟨by rw [fqs_len]; omega, fun f hf => ?_⟩
  obtain ⟨g, hg, rfl⟩ := List.mem_map.1 hf
  obtain ⟨h1, h2⟩ := h g hg
  obtain ⟨h3, h4⟩ := few_parts h2
  have : 300 * g.2.2.length ≤ 300 * 300 := Nat.mul_le_mul_left _ h1
  exact ⟨h3, by dsimp only; omega⟩
set_option maxHeartbeats 4000000 in
set_option maxRecDepth 100000 in
theorem walk_may (t : Nd) (a1 a2 : Option Addr) (q1 q2 : Nat) (w : World) (HN : Hid (NdIn w.heap.size w t (.slice a1 t.names.length q1) (.slice a2 t.kids.length q2))) (HO : Hid (Ok w.heap.size w)) :
    Calls Tryd.prog 5 #[.agg #[.int .i64 t.kind, .int .i64 t.op, .int .i64 t.num, .string t.str, .slice a1 t.names.length q1, .slice a2 t.kids.length q2, .int .i64 t.pl]] w fun e w' => e = .returned (.bool true) ∧ Below w.heap.size w w' := by
  have A0 := (Below.refl w.heap.size w).alloc (Nat.le_refl _) (.cells #[.int .i64 t.kind, .int .i64 t.op, .int .i64 t.num, .string t.str, .slice a1 t.names.length q1, .slice a2 t.kids.length q2, .int .i64 t.pl] 25)
  have x0 := blk_new w 25 #[.int .i64 t.kind, .int .i64 t.op, .int .i64 t.num, .string t.str, .slice a1 t.names.length q1, .slice a2 t.kids.length q2, .int .i64 t.pl]
  generalize hW0 : w.alloc (.cells #[.int .i64 t.kind, .int .i64 t.op, .int .i64 t.num, .string t.str, .slice a1 t.names.length q1, .slice a2 t.kids.length q2, .int .i64 t.pl] 25) = w0 at *
  have HF := hid (few_calls t w.heap.size w0 _ _ A0.size (hid (ndIn_on A0 _ _ _ HN.out)))
  have HA := hid A0
  have X0 := hid x0
  have hok : ∀ {c : World}, Below w.heap.size w c → Ok c.heap.size c := fun q => ok_up q.size (Nat.le_refl _) (ok_on HO.out q)
  have HOK := hid (fun c => @hok c)
  obtain ⟨c0, c1, c2, c3, c4, c5, c6⟩ := box_read (B := 0) x0
  clear A0 x0 hok
  go_enter Tryd.func5, Tryd.ntmps5
  go_wp2_with fail
  refine HF.out.mono ?_
  rintro e1 w1 ⟨rfl, b1⟩
  have B1 := hid (below_on HA.out b1)
  have X1 := hid (blk_on X0.out b1)
  clear b1 HF HA X0 c0 c1 c2 c3 c4 c5 c6 hW0
  cases hfew : fewB t with
  | false =>
    clear hfew
    go_wp2_with fail
    refine (works8_calls _ (HOK.out _ B1.out)).mono ?_
    rintro e9 w9 ⟨rfl, b9⟩
    have B9 := hid (below_on B1.out b9)
    clear b9
    go_wp2_with fail
    go_ret
    exact ⟨rfl, B9.out⟩
  | true =>
    obtain ⟨hcn, hhi, hsm⟩ := few_count hfew
    have hcn' : countN t ≤ 1000000 := by omega
    have HSM := hid hsm
    obtain ⟨c0, c1, c2, c3, c4, c5, c6⟩ := box_read (B := 0) X1.out
    have hl1 : w.heap.size < w1.heap.size := blk_lt X1.out
    have R1 := hid (resolve_calls t w1.heap.size w1 _ _ (hid (HOK.out _ B1.out)) (hid (ndIn_up B1.out.size _ _ _ (ndIn_on B1.out _ _ _ HN.out))) hsm hcn')
    clear hfew hhi hsm
    go_wp2_with fail
    refine R1.out.mono ?_
    rintro e2 w2 ⟨b2, h2⟩
    have B2 := hid (below_on B1.out b2)
    have X2 := hid (blk_on X1.out b2)
    have hl2 : w.heap.size < w2.heap.size := blk_lt X2.out
    clear R1 X1 B1 b2 c0 c1 c2 c3 c4 c5 c6
    cases hR : resolveP t with
    | bad p er =>
      rw [hR] at h2
      obtain rfl := h2
      have hne : (er != 0) = true := by simpa using resolveP_bad hR
      have A3 := hid (below_on B2.out ((Below.refl w2.heap.size w2).alloc (Nat.le_refl _) (.cells #[.int .i64 0, .slice none 0 0] 30)))
      clear hR
      go_wp2_with fail
      refine (works8_calls _ (HOK.out _ A3.out)).mono ?_
      rintro e9 w9 ⟨rfl, b9⟩
      have B9 := hid (below_on A3.out b9)
      clear b9
      go_wp2_with fail
      go_ret
      exact ⟨rfl, B9.out⟩
    | ok u =>
      obtain ⟨G, fs⟩ := u
      rw [hR] at h2
      obtain ⟨fv, rfl, hU⟩ := h2
      have FI := unS_in hU
      obtain ⟨fa, fc, e2⟩ := fnsIn_shape FI
      rw [fqs_len] at e2
      subst e2
      have h32 := resolve_len32 hR
      have hmay := resolve_may hR h32
      have HM := hid hmay.1
      have hln := hmay.2
      have HFU := hid (fewU_of (resolve_few hR HSM.out hcn) h32)
      have A3 := (Below.refl w2.heap.size w2).alloc (Nat.le_refl _) (.cells #[.int .i64 (G : Int), .slice fa fs.length fc] 30)
      have u3 := blk_new w2 30 #[.int .i64 (G : Int), .slice fa fs.length fc]
      have B3 := hid (below_on B2.out A3)
      have X3 := hid (blk_on X2.out A3)
      have F3 := hid (fnsIn_on FI A3)
      have U3 := hid u3
      have hcl := cntF_le t
      have HCN := hid hcn'
      have HLN := hid hln
      clear hmay hR hU FI hln A3 u3 h32 B2 X2
      go_wp2_with fail
      generalize hW3 : w2.alloc (.cells #[.int .i64 (G : Int), .slice fa fs.length fc] 30) = w3 at *
      have hl3 := blk_lt U3.out
      clear hW3
      have HS := hid (show ∀ wx, Below w3.heap.size w3 wx → (wx.cell? ⟨w.heap.size, 0, none⟩ = some (.int .i64 t.kind) ∧ wx.cell? ⟨w.heap.size, 1, none⟩ = some (.int .i64 t.op) ∧ wx.cell? ⟨w.heap.size, 2, none⟩ = some (.int .i64 t.num) ∧ wx.cell? ⟨w.heap.size, 3, none⟩ = some (.string t.str) ∧ wx.cell? ⟨w.heap.size, 4, none⟩ = some (.slice a1 t.names.length q1) ∧ wx.cell? ⟨w.heap.size, 5, none⟩ = some (.slice a2 t.kids.length q2) ∧ wx.cell? ⟨w.heap.size, 6, none⟩ = some (.int .i64 t.pl) ∧ wx.cell? ⟨w2.heap.size, 0, none⟩ = some (.int .i64 (G : Int)) ∧ wx.cell? ⟨w2.heap.size, 1, none⟩ = some (.slice fa fs.length fc)) from fun wx q => by
        obtain ⟨c0, c1, c2, c3, c4, c5, c6⟩ := box_read (B := 0) (blk_on X3.out q)
        have v := blk_on U3.out q
        exact ⟨c0, c1, c2, c3, c4, c5, c6, (blk_cell v 0).trans rfl, (blk_cell v 1).trans rfl⟩)
      refine wp_region_held_drew (S := fun wx => wx.cell? ⟨w.heap.size, 0, none⟩ = some (.int .i64 t.kind) ∧ wx.cell? ⟨w.heap.size, 1, none⟩ = some (.int .i64 t.op) ∧ wx.cell? ⟨w.heap.size, 2, none⟩ = some (.int .i64 t.num) ∧ wx.cell? ⟨w.heap.size, 3, none⟩ = some (.string t.str) ∧ wx.cell? ⟨w.heap.size, 4, none⟩ = some (.slice a1 t.names.length q1) ∧ wx.cell? ⟨w.heap.size, 5, none⟩ = some (.slice a2 t.kids.length q2) ∧ wx.cell? ⟨w.heap.size, 6, none⟩ = some (.int .i64 t.pl) ∧ wx.cell? ⟨w2.heap.size, 0, none⟩ = some (.int .i64 (G : Int)) ∧ wx.cell? ⟨w2.heap.size, 1, none⟩ = some (.slice fa fs.length fc)) (by kernel_rfl) (HS.out _ (Below.refl _ _).drew) (fun hHeld => ?_)
      have HC := hid (check_calls8 (G : Int) (fqs fs) w3.heap.size w3.drew (.slice fa fs.length fc) (hid (ok_on (HOK.out _ B3.out) (Below.refl _ _).drew)) (hid (fnsIn_on (fnsIn_up (Nat.le_of_lt hl3) F3.out) (Below.refl _ _).drew)) HFU)
      rw [show checkU (G : Int) (fqs fs) = 0 from HM.out] at HC
      generalize hcnt : cntF t = cnt at *
      have hcle : cnt ≤ 1000000 := by omega
      have hcd : ((cnt : Int) + 1) = (fs.length : Int) := by have := HLN.out; omega
      refine wpAnyH_take (i := 0) (v := ?v1) rfl (by kernel_rfl) (by kernel_rfl) (by kernel_rfl) (fun _ _ _ h => h) (Or.inl ⟨by rfl, ?hy1⟩) (by assumption) ?_
      case hy1 => ((intro w hSw; obtain ⟨s0, s1, s2, s3, s4, s5, s6, s7, s8⟩ := hSw; go_simp <;> (try with_reducible rfl)))
      simp only [Act.put, List.setIfInBounds_toArray, List.set_cons_zero, List.set_cons_succ, List.getElem_toArray, List.getElem_cons_succ, List.getElem_cons_zero]
      refine wpAnyH_ready (rs := [1]) (by kernel_rfl) (by simp) ?_
      refine AllReadyH.cons rfl (fun K hK => ?_) AllReadyH.nil
      go_simp
      refine HC.out.mono ?_
      rintro e4 w4 ⟨rfl, b4⟩
      have B4 := hid (show Below w3.heap.size w3 w4 from below_on (Below.refl w3.heap.size w3).drew b4)
      have Q4 := hid (HS.out _ B4.out)
      go_simp
      refine hK.out _ _ Q4.out (fun _ => ?_)
      clear hK K b4 HC
      try simp only [Act.put, List.setIfInBounds_toArray, List.set_cons_zero, List.set_cons_succ, List.getElem_toArray, List.getElem_cons_succ, List.getElem_cons_zero]
      refine wpAnyH_take (i := 2) (v := ?v3) rfl (by kernel_rfl) (by kernel_rfl) (by kernel_rfl) (fun _ _ _ h => h) (Or.inl ⟨by rfl, ?hy3⟩) (by assumption) ?_
      case hy3 => ((intro w hSw; obtain ⟨s0, s1, s2, s3, s4, s5, s6, s7, s8⟩ := hSw; go_simp <;> (try with_reducible rfl)))
      simp only [Act.put, List.setIfInBounds_toArray, List.set_cons_zero, List.set_cons_succ, List.getElem_toArray, List.getElem_cons_succ, List.getElem_cons_zero]
      refine wpAnyH_take (i := 3) (v := ?v4) rfl (by kernel_rfl) (by kernel_rfl) (by kernel_rfl) (fun _ _ _ h => h) (Or.inl ⟨by rfl, ?hy4⟩) (by assumption) ?_
      case hy4 => ((intro w hSw; obtain ⟨s0, s1, s2, s3, s4, s5, s6, s7, s8⟩ := hSw; go_simp <;> (try with_reducible rfl)))
      simp only [Act.put, List.setIfInBounds_toArray, List.set_cons_zero, List.set_cons_succ, List.getElem_toArray, List.getElem_cons_succ, List.getElem_cons_zero]
      refine wpAnyH_take (i := 4) (v := ?v5) rfl (by kernel_rfl) (by kernel_rfl) (by kernel_rfl) (fun _ _ _ h => h) (Or.inl ⟨by rfl, ?hy5⟩) (by assumption) ?_
      case hy5 => ((intro w hSw; obtain ⟨s0, s1, s2, s3, s4, s5, s6, s7, s8⟩ := hSw; go_simp <;> (try with_reducible rfl)))
      simp only [Act.put, List.setIfInBounds_toArray, List.set_cons_zero, List.set_cons_succ, List.getElem_toArray, List.getElem_cons_succ, List.getElem_cons_zero]
      refine wpAnyH_take (i := 5) (v := ?v6) rfl (by kernel_rfl) (by kernel_rfl) (by kernel_rfl) (fun _ _ _ h => h) (Or.inl ⟨by rfl, ?hy6⟩) (by assumption) ?_
      case hy6 => ((intro w hSw; obtain ⟨s0, s1, s2, s3, s4, s5, s6, s7, s8⟩ := hSw; go_simp <;> (try with_reducible rfl)))
      simp only [Act.put, List.setIfInBounds_toArray, List.set_cons_zero, List.set_cons_succ, List.getElem_toArray, List.getElem_cons_succ, List.getElem_cons_zero]
      refine wpAnyH_take (i := 6) (v := ?v7) rfl (by kernel_rfl) (by kernel_rfl) (by kernel_rfl) (fun _ _ _ h => h) (Or.inl ⟨by rfl, ?hy7⟩) (by assumption) ?_
      case hy7 => ((intro w hSw; obtain ⟨s0, s1, s2, s3, s4, s5, s6, s7, s8⟩ := hSw; go_simp <;> (try with_reducible rfl)))
      simp only [Act.put, List.setIfInBounds_toArray, List.set_cons_zero, List.set_cons_succ, List.getElem_toArray, List.getElem_cons_succ, List.getElem_cons_zero]
      refine wpAnyH_take (i := 7) (v := ?v8) rfl (by kernel_rfl) (by kernel_rfl) (by kernel_rfl) (fun _ _ _ h => h) (Or.inl ⟨by rfl, ?hy8⟩) (by assumption) ?_
      case hy8 => ((intro w hSw; obtain ⟨s0, s1, s2, s3, s4, s5, s6, s7, s8⟩ := hSw; go_simp <;> (try with_reducible rfl)))
      simp only [Act.put, List.setIfInBounds_toArray, List.set_cons_zero, List.set_cons_succ, List.getElem_toArray, List.getElem_cons_succ, List.getElem_cons_zero]
      have HB4 := hid (below_on B3.out B4.out)
      have HFN := hid (functions_calls t w.heap.size w4 _ _ HB4.out.size (hid (ndIn_on HB4.out _ _ _ HN.out)) hcn')
      rw [hcnt] at HFN
      refine wpAnyH_ready (rs := [8]) (by kernel_rfl) (by simp) ?_
      refine AllReadyH.cons rfl (fun K hK => ?_) AllReadyH.nil
      go_simp
      refine HFN.out.mono ?_
      rintro e5 w5 ⟨rfl, b5⟩
      have B5 := hid (below_on B4.out b5)
      have Q5 := hid (HS.out _ B5.out)
      go_simp
      refine hK.out _ _ Q5.out (fun _ => ?_)
      clear hK K b5 HFN
      try simp only [Act.put, List.setIfInBounds_toArray, List.set_cons_zero, List.set_cons_succ, List.getElem_toArray, List.getElem_cons_succ, List.getElem_cons_zero]
      have hno : -9223372036854775808 ≤ (cnt : Int) + 1 ∧ (cnt : Int) + 1 ≤ 9223372036854775807 := by omega
      refine wpAnyH_take (i := 9) (v := .int .i64 (fs.length : Int)) rfl (by kernel_rfl) (by kernel_rfl) (by kernel_rfl) (fun _ _ _ h => h) (Or.inl ⟨by rfl, ?_⟩) (by assumption) ?_
      · (intro w hSw; go_simp <;> (rw [IntKind.wrap_i64]; omega))
      simp only [Act.put, List.setIfInBounds_toArray, List.set_cons_zero, List.set_cons_succ, List.getElem_toArray, List.getElem_cons_succ, List.getElem_cons_zero]
      refine wpAnyH_take (i := 10) (v := ?v10) rfl (by kernel_rfl) (by kernel_rfl) (by kernel_rfl) (fun _ _ _ h => h) (Or.inl ⟨by rfl, ?hy10⟩) (by assumption) ?_
      case hy10 => ((intro w hSw; obtain ⟨s0, s1, s2, s3, s4, s5, s6, s7, s8⟩ := hSw; go_simp <;> (try with_reducible rfl)))
      simp only [Act.put, List.setIfInBounds_toArray, List.set_cons_zero, List.set_cons_succ, List.getElem_toArray, List.getElem_cons_succ, List.getElem_cons_zero]
      refine wpAnyH_take (i := 11) (v := ?v11) rfl (by kernel_rfl) (by kernel_rfl) (by kernel_rfl) (fun _ _ _ h => h) (Or.inl ⟨by rfl, ?hy11⟩) (by assumption) ?_
      case hy11 => ((intro w hSw; obtain ⟨s0, s1, s2, s3, s4, s5, s6, s7, s8⟩ := hSw; go_simp <;> (try with_reducible rfl)))
      simp only [Act.put, List.setIfInBounds_toArray, List.set_cons_zero, List.set_cons_succ, List.getElem_toArray, List.getElem_cons_succ, List.getElem_cons_zero]
      refine wpAnyH_take (i := 12) (v := ?v12) rfl (by kernel_rfl) (by kernel_rfl) (by kernel_rfl) (fun _ _ _ h => h) (Or.inl ⟨by rfl, ?hy12⟩) (by assumption) ?_
      case hy12 => ((intro w hSw; obtain ⟨s0, s1, s2, s3, s4, s5, s6, s7, s8⟩ := hSw; go_simp <;> (try with_reducible rfl)))
      simp only [Act.put, List.setIfInBounds_toArray, List.set_cons_zero, List.set_cons_succ, List.getElem_toArray, List.getElem_cons_succ, List.getElem_cons_zero]
      have HWK := hid (works8_calls w5 (HOK.out _ (below_on B3.out B5.out)))
      refine wpAnyH_ready (rs := [13]) (by kernel_rfl) (by simp) ?_
      refine AllReadyH.cons rfl (fun K hK => ?_) AllReadyH.nil
      go_simp
      refine HWK.out.mono ?_
      rintro e6 w6 ⟨rfl, b6⟩
      have B6 := hid (below_on B5.out b6)
      have Q6 := hid (HS.out _ B6.out)
      go_simp
      refine hK.out _ _ Q6.out (fun _ => ?_)
      clear hK K b6 HWK
      try simp only [Act.put, List.setIfInBounds_toArray, List.set_cons_zero, List.set_cons_succ, List.getElem_toArray, List.getElem_cons_succ, List.getElem_cons_zero]
      refine wpAnyH_take (i := 14) (v := ?v14) rfl (by kernel_rfl) (by kernel_rfl) (by kernel_rfl) (fun _ _ _ h => h) (Or.inl ⟨by rfl, ?hy14⟩) (by assumption) ?_
      case hy14 => ((intro w hSw; obtain ⟨s0, s1, s2, s3, s4, s5, s6, s7, s8⟩ := hSw; go_simp <;> (try with_reducible rfl)))
      simp only [Act.put, List.setIfInBounds_toArray, List.set_cons_zero, List.set_cons_succ, List.getElem_toArray, List.getElem_cons_succ, List.getElem_cons_zero]
      refine wpAnyH_take (i := 15) (v := ?v15) rfl (by kernel_rfl) (by kernel_rfl) (by kernel_rfl) (fun _ _ _ h => h) (Or.inl ⟨by rfl, ?hy15⟩) (by assumption) ?_
      case hy15 => ((intro w hSw; obtain ⟨s0, s1, s2, s3, s4, s5, s6, s7, s8⟩ := hSw; go_simp <;> (try with_reducible rfl)))
      simp only [Act.put, List.setIfInBounds_toArray, List.set_cons_zero, List.set_cons_succ, List.getElem_toArray, List.getElem_cons_succ, List.getElem_cons_zero]
      refine wpAnyH_done (by kernel_rfl) ?_ _
      go_wp2_with fail
      go_ret
      exact ⟨rfl, below_on B3.out B6.out⟩

theorem walk (t0 : Nd) (nv0 kv0 : Value) (w : World) (w0 : Hid (NdIn w.heap.size w t0 nv0 kv0)) (h0 : 0 < w.heap.size) (SG : Hid (Texts 0 tsgnL w)) :
    Calls Tryd.prog 5 #[.agg #[.int .i64 t0.kind, .int .i64 t0.op, .int .i64 t0.num, .string t0.str, nv0, kv0, .int .i64 t0.pl]] w fun e w' => e = .returned (.bool true) ∧ Below w.heap.size w w' := by
  obtain ⟨a1, q1, a2, q2, rfl, rfl⟩ := ndIn_shape w0.out
  exact walk_may t0 a1 a2 q1 q2 w w0 (hid ⟨Nat.le_refl _, h0, SG.out⟩)

set_option maxRecDepth 100000 in
theorem lifted (os : Os) (started : os.Started) (H : Type) (enc : TypeId × Value → H) :
    ReturnsInHanded {} Tryd.checked os 5 .any (fun w args => (Rows.scopeMaySpec.pre enc Tryd.prog Tryd.f5 [] false w args ∧ laidMetH Tryd.prog laidS w) ∧ sizedMet enc Tryd.prog Tryd.f5 (OpenSpec.ofChange Rows.scopeMaySpec) false w args)
      (Rows.scopeMaySpec.post enc Tryd.prog Tryd.f5 false true false false) := by
  refine returnsInHanded_of_change_and (C := Tryd.checked) (X := fun w _ => laidMetH Tryd.prog laidS w) (fun _ _ _ hh h => h.of_heap hh) own started (by kernel_rfl) Tryd.func5
    (ChangeSpec.witness_shaped (enc := enc) (C := Tryd.checked) (os := os) (X := fun w _ => laidMetH Tryd.prog laidS w) false (World.doorLaid Tryd.prog 14 os) #[.agg #[.int .i64 0, .int .i64 0, .int .i64 0, .string ByteArray.empty, .slice none 0 0, .slice none 0 0, .int .i64 0]] 8 rfl (World.shaped_of_RefB (by kernel_rfl) (by kernel_rfl)) (by kernel_rfl) (by kernel_rfl) (by kernel_rfl) (door_met os _)) ?_
  intro W base args ds gs before hval0 hW _ _ hL _
  obtain ⟨hz, hSG⟩ := of_laid hL
  have hval : ∀ (j : Nat) t v, Tryd.f5.params[j]? = some t → args[j]? = some v → Value.okWide Tryd.prog W .any base t v := hval0
  have hW' := hW
  obtain ⟨p, q, hA0, hV, rfl, hfz, hnd⟩ := hW
  have hA : DataW.TrodAll enc Tryd.prog W 0 (fun _ => true) true Tryd.f5.params.toList args.toList ds p := hA0
  rw [Tryd.params5] at hA hval
  obtain ⟨v0, vs0, d0, ds0, p0, q0, hargs, rfl, rfl, h0, r0⟩ := trodAll_cons hA
  obtain ⟨rfl, rfl, rfl⟩ := trodAll_nil r0
  obtain rfl : args = #[v0] := by cases args; simp_all
  obtain ⟨rfl, rfl⟩ := trodVars_none hV
  have hk0 := h0
  have hlt0 : ∀ x ∈ p0, x.block < W.heap.size := fun x hx => by simpa using hW'.lt x (by simp [hx])
  obtain ⟨t0, nv0, kv0, rfl, w0⟩ := open_node (hval 0 25 v0 rfl rfl) h0
  clear hA0 hval0
  refine (walk t0 nv0 kv0 W w0 hz hSG).mono fun e W' ⟨he, hg⟩ => ?_
  subst he
  exact ⟨_, rfl, _, _, _, [], _, [], hW', trodAll_mk1 (shut_bool Tryd.underlying4 _), (trodAll_cons_mk (Below.trod laidOutP (by kernel_rfl) (of_decide_eq_true (by kernel_rfl)) hk0 hg hlt0) trodAll_mk0), rfl, hg.frame _, fun h => by cases h⟩

theorem over : Rows.scopeMayRow.holds Tryd.pinned (OpenSpec.ofChange Rows.scopeMaySpec) :=
  OpenClaim.holds_of_wide 5 Tryd.f5 rfl rfl rfl rfl rfl rfl rfl ⟨rfl, rfl, rfl, rfl, rfl⟩ rfl rfl rfl rfl rfl (by kernel_rfl) Tryd.func5 (by kernel_rfl)
    (of_decide_eq_true (by kernel_rfl)) (by unfold Func.isWrapper; first | (rw [if_pos (by decide +kernel)]; kernel_rfl) | (rw [if_neg (by decide +kernel)]; exact ⟨rfl, rfl⟩))
    (fun os started H enc _ => lifted os started H enc)

end Go.Proofs.YteoghacpdfnijaaDoor.scopeMay
namespace Go.Proofs.YteoghacpdfnijaaDoor

/-- the statement, as it was given: the tied card -/
theorem scopeMay_holds : Rows.ScopeMayCardSaid :=
  Claim7.holds_tied_plain_at .later [] [.data] true (true, "7d5e83a59477f08df7a78a1eeb2eab4ce7fb9b76639198b4d022ff64f170de32") false
    scopeMay.over (fun _ h => by cases h) (by kernel_rfl) (fun _ h => by cases h) scopeMay_row_tie rfl ⟨rfl, rfl⟩ (by kernel_rfl) rfl
    (fun f fn hf hfn => by
      obtain rfl : f = 5 := Option.some.inj ((show Tryd.prog.funcNamed "proteus/proteuslaw08.ScopeMay" = some 5 by kernel_rfl).symm.trans hf) |>.symm
      obtain rfl : fn = Tryd.f5 := (Option.some.inj (Tryd.func5.symm.trans hfn)).symm
      exact ⟨by kernel_rfl, fun j t ht => by
        rw [Tryd.params5] at ht
        have hm : t ∈ [25] := by simpa using Array.mem_of_getElem? ht
        have hall : ([25].all fun u => !Tryd.prog.wantsStandIn u) = true := by kernel_rfl
        exact (show Tryd.prog.wantsStandIn t = false by simpa using List.all_eq_true.1 hall t hm)⟩)
    (by kernel_rfl)
#print axioms scopeMay_holds
end Go.Proofs.YteoghacpdfnijaaDoor
