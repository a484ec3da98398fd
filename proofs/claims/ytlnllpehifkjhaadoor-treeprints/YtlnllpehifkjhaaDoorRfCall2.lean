/- Calls as the document writes them. -/
import Derived.Test.YtlnllpehifkjhaaDoorRfCall
namespace Go.Proofs.YtlnllpehifkjhaaDoor
open Go.RowKit

set_option linter.unusedSimpArgs false in
set_option maxHeartbeats 3200000 in
set_option maxRecDepth 100000 in
theorem rexpr_15_a (o n : Int) (s : ByteArray) (ns : List ByteArray) (x : Nd) (r : List Nd) (p : Int) (hE : RExprAt x) (hR : ∀ z ∈ r, RExprAt z) (hr : x.kind = 10 → 1 ≤ x.op ∧ x.op ≤ 11) (hl : (textN x).e.length ≤ 100000000) (_hs : s.size ≤ 600) (hlen : sum4 (r.map textN) ≤ 100000000) (hrl : r.length ≤ 1000000) (hlow : decide (rankT x.kind x.op < 8) = true) : RExprAt (.mk 15 o n s ns (x :: r) p) := by
  intro B w nv kv hB h1
  obtain ⟨hs1, hk1⟩ := ndIn_mk.1 h1.out
  obtain ⟨a1, q1, rfl, _⟩ := strsIn_cases hs1
  obtain ⟨a2, q2, rfl, hkk⟩ := kidsIn_cases hk1
  have hcap := (kidsIn_cap hk1).resolve_left (by simp)
  obtain ⟨b, off, rfl, hbB, hat⟩ := hkk.resolve_left (by simp)
  obtain ⟨nv0, kv0, hnode, hin⟩ := ndsAt_get hat 0 (by simp)
  simp only [List.getElem_cons_zero, Nat.zero_mul, Nat.add_zero] at hnode hin
  simp only [Nd.kind, Nd.op, Nd.num, Nd.str, Nd.pl, List.length_cons] at hcap ⊢
  obtain ⟨b1, r1, b2, r2, rfl, rfl⟩ := ndIn_shape hin
  obtain ⟨c0, c1, c2, c3, c4, c5, c6⟩ := hnode
  obtain ⟨ao, hao, hao2⟩ : ∃ ao, (if q2 = 1 then some ⟨b, off, none⟩ else some ⟨b, off + 7, none⟩ : Option Addr) = ao ∧ KidsIn B w (.slice ao r.length (q2 - 1)) r := by
    by_cases hq : q2 = 1
    · have hr0 : r = [] := List.length_eq_zero_iff.1 (by omega)
      rw [if_pos hq]; subst hr0; exact ⟨_, rfl, .inl ⟨_, _, rfl, rfl⟩⟩
    · rw [if_neg hq]; exact ⟨_, rfl, rkids_tail hat hbB (by omega)⟩
  have hal := box2_below w (.cells #[.int .i64 15, .int .i64 o, .int .i64 n, .string s, .slice a1 ns.length q1, .slice (some ⟨b, off, none⟩) (r.length + 1) q2, .int .i64 p] 25) (.cells #[.int .i64 x.kind, .int .i64 x.op, .int .i64 x.num, .string x.str, .slice b1 x.names.length r1, .slice b2 x.kids.length r2, .int .i64 x.pl] 25)
  have hbx := boxes2 w 15 o n s (.slice a1 ns.length q1) (.slice (some ⟨b, off, none⟩) (r.length + 1) q2) p x.kind x.op x.num x.str (.slice b1 x.names.length r1) (.slice b2 x.kids.length r2) x.pl
  have C0 := hid (kc_1_mk hal (by simp; omega) hbx.1 hbx.2 (ndIn_on (hal.mono hB) _ _ _ hin) (kidsIn_on (hal.mono hB) hao2))
  have hbl : b < w.heap.size := by omega
  have HE := hid hE
  have HR := hid hR
  have hrb := brT_len true (textN x).e
  have hls := list_len (r.map textN)
  have HL := hid hl
  have HLN := hid hlen
  have HRK := hid (show rankT 15 o = 8 by simp [rankT])
  have HT := hid (show (⟨(textN (.mk 15 o n s ns (x :: r) p)).e.toArray⟩ : ByteArray) = ⟨(brT true (textN x).e).toArray⟩ ++ ⟨#[40]⟩ ++ ⟨(listT (r.map textN)).toArray⟩ ++ ⟨#[41]⟩ by
    rw [textN_mk]; apply ByteArray.ext
    have e : tightT (textN x) (if (textN x).kind = 13 then 9 else 8) = (brT true (textN x).e) := by
      rw [show true = (decide (rankT x.kind x.op < 8) || decide (x.kind = 13)) from (by rw [hlow]; rfl), tight_in, textN_rank, textN_kindR]
      by_cases h13 : x.kind = 13
      · rw [if_pos h13, h13, show rankT 13 x.op = 8 by simp [rankT]]; rfl
      · rw [if_neg h13, show decide (x.kind = 13) = false from decide_eq_false h13, Bool.or_false]
    simp [exprT, at0, argsT, e])
  have f1 : ¬ (9223372036854775807 < (brT true (textN x).e).length + 1) := by omega
  have f2 : ¬ (9223372036854775807 < (brT true (textN x).e).length + 1 + (listT (r.map textN)).length) := by omega
  have f3 : ¬ (9223372036854775807 < (brT true (textN x).e).length + 1 + (listT (r.map textN)).length + 1) := by omega
  clear hrb hls
  clear hal hbx hin hkk hat hs1 hk1 h1 hE hl hR hlen hao2
  go_enter Tryd.func53, Tryd.ntmps53
  go_wp2_with fail
  go_region_held3 (fun a => (Below w.heap.size w a ∧ B ≤ a.heap.size ∧ Box w.heap.size 15 o n s (.slice a1 ns.length q1) (.slice (some ⟨b, off, none⟩) (r.length + 1) q2) p a ∧ Box (w.heap.size + 1) x.kind x.op x.num x.str (.slice b1 x.names.length r1) (.slice b2 x.kids.length r2) x.pl a ∧ NdIn B a x (.slice b1 x.names.length r1) (.slice b2 x.kids.length r2) ∧ KidsIn B a (.slice ao r.length (q2 - 1)) r) ∧ a.cell? ⟨w.heap.size, 0, none⟩ = some (.int .i64 15) ∧ a.cell? ⟨w.heap.size, 1, none⟩ = some (.int .i64 o) ∧ a.cell? ⟨w.heap.size, 2, none⟩ = some (.int .i64 n) ∧ a.cell? ⟨w.heap.size, 3, none⟩ = some (.string s) ∧ a.cell? ⟨w.heap.size, 4, none⟩ = some (.slice a1 ns.length q1) ∧ a.cell? ⟨w.heap.size, 5, none⟩ = some (.slice (some ⟨b, off, none⟩) (r.length + 1) q2) ∧ a.cell? ⟨w.heap.size, 6, none⟩ = some (.int .i64 p) ∧ a.cell? ⟨w.heap.size + 1, 0, none⟩ = some (.int .i64 x.kind) ∧ a.cell? ⟨w.heap.size + 1, 1, none⟩ = some (.int .i64 x.op) ∧ a.cell? ⟨w.heap.size + 1, 2, none⟩ = some (.int .i64 x.num) ∧ a.cell? ⟨w.heap.size + 1, 3, none⟩ = some (.string x.str) ∧ a.cell? ⟨w.heap.size + 1, 4, none⟩ = some (.slice b1 x.names.length r1) ∧ a.cell? ⟨w.heap.size + 1, 5, none⟩ = some (.slice b2 x.kids.length r2) ∧ a.cell? ⟨w.heap.size + 1, 6, none⟩ = some (.int .i64 x.pl))
    (first | assumption | exact kc_1 (by assumption) bb | exact kc_1 C0.out (Below.refl _ _).drew | exact kc_1 (by assumption) (Below.refl _ _).drew)
    (first
      | (go_at_call_of 52 x; refine (rrank_calls x.kind x.op x.num x.str b1 x.names.length r1 b2 x.kids.length r2 x.pl _ hr).mono ?_; rintro e wx ⟨rfl, bb⟩)
      | (go_at_call 52; refine (rrank_calls 15 o n s a1 ns.length q1 (some ⟨b, off, none⟩) (r.length + 1) q2 p _ (fun h => absurd h (by decide))).mono ?_; rintro e wx ⟨he, bb⟩; rw [HRK.out] at he; subst he))
  all_goals
    rename_i hz
    have C1 := hid hz
    clear hz C0 c0 c1 c2 c3 c4 c5 c6
    obtain ⟨x0, x1, x2, x3, x4, x5, x6, y0, y1, y2, y3, y4, y5, y6⟩ := C1.out.2
    go_wp2_with fail
    have hsl : (1 : Int) ≤ (r.length : Int) + 1 := by omega
    refine wp_region_held_drew (S := (fun a => (Below w.heap.size w a ∧ B ≤ a.heap.size ∧ Box w.heap.size 15 o n s (.slice a1 ns.length q1) (.slice (some ⟨b, off, none⟩) (r.length + 1) q2) p a ∧ Box (w.heap.size + 1) x.kind x.op x.num x.str (.slice b1 x.names.length r1) (.slice b2 x.kids.length r2) x.pl a ∧ NdIn B a x (.slice b1 x.names.length r1) (.slice b2 x.kids.length r2) ∧ KidsIn B a (.slice ao r.length (q2 - 1)) r) ∧ a.cell? ⟨w.heap.size, 0, none⟩ = some (.int .i64 15) ∧ a.cell? ⟨w.heap.size, 1, none⟩ = some (.int .i64 o) ∧ a.cell? ⟨w.heap.size, 2, none⟩ = some (.int .i64 n) ∧ a.cell? ⟨w.heap.size, 3, none⟩ = some (.string s) ∧ a.cell? ⟨w.heap.size, 4, none⟩ = some (.slice a1 ns.length q1) ∧ a.cell? ⟨w.heap.size, 5, none⟩ = some (.slice (some ⟨b, off, none⟩) (r.length + 1) q2) ∧ a.cell? ⟨w.heap.size, 6, none⟩ = some (.int .i64 p) ∧ a.cell? ⟨w.heap.size + 1, 0, none⟩ = some (.int .i64 x.kind) ∧ a.cell? ⟨w.heap.size + 1, 1, none⟩ = some (.int .i64 x.op) ∧ a.cell? ⟨w.heap.size + 1, 2, none⟩ = some (.int .i64 x.num) ∧ a.cell? ⟨w.heap.size + 1, 3, none⟩ = some (.string x.str) ∧ a.cell? ⟨w.heap.size + 1, 4, none⟩ = some (.slice b1 x.names.length r1) ∧ a.cell? ⟨w.heap.size + 1, 5, none⟩ = some (.slice b2 x.kids.length r2) ∧ a.cell? ⟨w.heap.size + 1, 6, none⟩ = some (.int .i64 x.pl))) (by kernel_rfl) ?_ (fun hHeld => ?_)
    · exact kc_1 C1.out (Below.refl _ _).drew
    refine wpAnyH_take (i := 0) (v := ?v0) rfl (by kernel_rfl) (by kernel_rfl) (by kernel_rfl) (fun _ _ _ h => h) (Or.inl ⟨by rfl, ?hy0⟩) (by assumption) ?_
    case hy0 => (intro w hSw; (try dsimp only at hSw); go_simp <;> (try with_reducible rfl))
    simp only [Act.put, List.setIfInBounds_toArray, List.set_cons_zero, List.set_cons_succ, List.getElem_toArray, List.getElem_cons_succ, List.getElem_cons_zero]
    refine wpAnyH_take (i := 1) (v := ?v1) rfl (by kernel_rfl) (by kernel_rfl) (by kernel_rfl) (fun _ _ _ h => h) (Or.inl ⟨by rfl, ?hy1⟩) (by assumption) ?_
    case hy1 => (intro w hSw; (try dsimp only at hSw); go_simp <;> (try with_reducible rfl))
    simp only [Act.put, List.setIfInBounds_toArray, List.set_cons_zero, List.set_cons_succ, List.getElem_toArray, List.getElem_cons_succ, List.getElem_cons_zero]
    refine wpAnyH_take (i := 2) (v := ?v2) rfl (by kernel_rfl) (by kernel_rfl) (by kernel_rfl) (fun _ _ _ h => h) (Or.inl ⟨by rfl, ?hy2⟩) (by assumption) ?_
    case hy2 => (intro w hSw; (try dsimp only at hSw); go_simp <;> (try with_reducible rfl))
    simp only [Act.put, List.setIfInBounds_toArray, List.set_cons_zero, List.set_cons_succ, List.getElem_toArray, List.getElem_cons_succ, List.getElem_cons_zero]
    refine wpAnyH_take (i := 3) (v := undef) rfl (by kernel_rfl) (by kernel_rfl) (by kernel_rfl) (fun _ _ _ h => h) (Or.inr ⟨by rfl, rfl⟩) (by assumption) ?_
    simp only [Act.put, List.setIfInBounds_toArray, List.set_cons_zero, List.set_cons_succ, List.getElem_toArray, List.getElem_cons_succ, List.getElem_cons_zero]
    refine wpAnyH_take (i := 4) (v := undef) rfl (by kernel_rfl) (by kernel_rfl) (by kernel_rfl) (fun _ _ _ h => h) (Or.inr ⟨by rfl, rfl⟩) (by assumption) ?_
    simp only [Act.put, List.setIfInBounds_toArray, List.set_cons_zero, List.set_cons_succ, List.getElem_toArray, List.getElem_cons_succ, List.getElem_cons_zero]
    refine wpAnyH_take (i := 5) (v := undef) rfl (by kernel_rfl) (by kernel_rfl) (by kernel_rfl) (fun _ _ _ h => h) (Or.inr ⟨by rfl, rfl⟩) (by assumption) ?_
    simp only [Act.put, List.setIfInBounds_toArray, List.set_cons_zero, List.set_cons_succ, List.getElem_toArray, List.getElem_cons_succ, List.getElem_cons_zero]
    refine wpAnyH_take (i := 6) (v := ?v6) rfl (by kernel_rfl) (by kernel_rfl) (by kernel_rfl) (fun _ _ _ h => h) (Or.inl ⟨by rfl, ?hy6⟩) (by assumption) ?_
    case hy6 => (intro w hSw; (try dsimp only at hSw); go_simp <;> (try with_reducible rfl))
    simp only [Act.put, List.setIfInBounds_toArray, List.set_cons_zero, List.set_cons_succ, List.getElem_toArray, List.getElem_cons_succ, List.getElem_cons_zero]
    refine wpAnyH_take (i := 9) (v := ?v9) rfl (by kernel_rfl) (by kernel_rfl) (by kernel_rfl) (fun _ _ _ h => h) (Or.inl ⟨by rfl, ?hy9⟩) (by assumption) ?_
    case hy9 => (intro w hSw; (try dsimp only at hSw); go_simp <;> (try with_reducible rfl))
    simp only [Act.put, List.setIfInBounds_toArray, List.set_cons_zero, List.set_cons_succ, List.getElem_toArray, List.getElem_cons_succ, List.getElem_cons_zero]
    refine wpAnyH_take (i := 10) (v := ?v10) rfl (by kernel_rfl) (by kernel_rfl) (by kernel_rfl) (fun _ _ _ h => h) (Or.inl ⟨by rfl, ?hy10⟩) (by assumption) ?_
    case hy10 => (intro w hSw; (try dsimp only at hSw); go_simp <;> (try with_reducible rfl))
    simp only [Act.put, List.setIfInBounds_toArray, List.set_cons_zero, List.set_cons_succ, List.getElem_toArray, List.getElem_cons_succ, List.getElem_cons_zero]
    refine wpAnyH_take (i := 11) (v := ?v11) rfl (by kernel_rfl) (by kernel_rfl) (by kernel_rfl) (fun _ _ _ h => h) (Or.inl ⟨by rfl, ?hy11⟩) (by assumption) ?_
    case hy11 => (intro w hSw; (try dsimp only at hSw); go_simp <;> (try with_reducible rfl))
    simp only [Act.put, List.setIfInBounds_toArray, List.set_cons_zero, List.set_cons_succ, List.getElem_toArray, List.getElem_cons_succ, List.getElem_cons_zero]
    refine wpAnyH_ready (rs := [7]) (by kernel_rfl) (by simp) ?_
    refine AllReadyH.cons rfl (fun K hK => ?_) AllReadyH.nil
    go_simp
    go_wp2_with (go_at_call 54; refine (rat_calls x HE.out true HL.out B _ _ _ (kc_1_core (by assumption)).2.1 (hid (kc_1_core (by assumption)).2.2.2.2.1)).mono ?_; rintro e wx ⟨rfl, bb⟩)
    refine hK.out _ _ ?_ (fun hHeld => ?_)
    · (first | assumption | exact kc_1 (by assumption) bb | exact kc_1 C1.out (Below.refl _ _).drew | exact kc_1 (by assumption) (Below.refl _ _).drew)
    clear hK K
    refine wpAnyH_take (i := 8) (v := ?v8) rfl (by kernel_rfl) (by kernel_rfl) (by kernel_rfl) (fun _ _ _ h => h) (Or.inl ⟨by rfl, ?hy8⟩) (by assumption) ?_
    case hy8 => (intro w hSw; (try dsimp only at hSw); go_simp <;> (try with_reducible rfl))
    simp only [Act.put, List.setIfInBounds_toArray, List.set_cons_zero, List.set_cons_succ, List.getElem_toArray, List.getElem_cons_succ, List.getElem_cons_zero]
    refine wpAnyH_ready (rs := [12]) (by kernel_rfl) (by simp) ?_
    refine AllReadyH.cons rfl (fun K hK => ?_) AllReadyH.nil
    go_simp
    go_wp2_with (go_at_call 70; refine (rlist_calls r HR.out HLN.out hrl B _ _ (kc_1_core (by assumption)).2.1 (hid (kc_1_core (by assumption)).2.2.2.2.2)).mono ?_; rintro e wy ⟨rfl, bb⟩)
    refine hK.out _ _ ?_ (fun hHeld => ?_)
    · (first | assumption | exact kc_1 (by assumption) bb | exact kc_1 C1.out (Below.refl _ _).drew | exact kc_1 (by assumption) (Below.refl _ _).drew)
    clear hK K
    refine wpAnyH_take (i := 13) (v := ?v13) rfl (by kernel_rfl) (by kernel_rfl) (by kernel_rfl) (fun _ _ _ h => h) (Or.inl ⟨by rfl, ?hy13⟩) (by assumption) ?_
    case hy13 => (intro w hSw; (try dsimp only at hSw); go_simp <;> (try with_reducible rfl))
    simp only [Act.put, List.setIfInBounds_toArray, List.set_cons_zero, List.set_cons_succ, List.getElem_toArray, List.getElem_cons_succ, List.getElem_cons_zero]
    refine wpAnyH_take (i := 14) (v := ?v14) rfl (by kernel_rfl) (by kernel_rfl) (by kernel_rfl) (fun _ _ _ h => h) (Or.inl ⟨by rfl, ?hy14⟩) (by assumption) ?_
    case hy14 => (intro w hSw; (try dsimp only at hSw); go_simp <;> (try with_reducible rfl))
    simp only [Act.put, List.setIfInBounds_toArray, List.set_cons_zero, List.set_cons_succ, List.getElem_toArray, List.getElem_cons_succ, List.getElem_cons_zero]
    refine wpAnyH_take (i := 15) (v := ?v15) rfl (by kernel_rfl) (by kernel_rfl) (by kernel_rfl) (fun _ _ _ h => h) (Or.inl ⟨by rfl, ?hy15⟩) (by assumption) ?_
    case hy15 => (intro w hSw; (try dsimp only at hSw); go_simp <;> (try with_reducible rfl))
    simp only [Act.put, List.setIfInBounds_toArray, List.set_cons_zero, List.set_cons_succ, List.getElem_toArray, List.getElem_cons_succ, List.getElem_cons_zero]
    refine wpAnyH_done (by kernel_rfl) ?_ _
    have Z := hid hHeld.1.1
    clear hHeld
    go_wp2_with fail
    go_ret
    exact ⟨by rw [HT.out]; rfl, Z.out⟩

set_option maxHeartbeats 3200000 in
set_option maxRecDepth 100000 in
theorem rexpr_15_b (o n : Int) (s : ByteArray) (ns : List ByteArray) (x : Nd) (r : List Nd) (p : Int) (hE : RExprAt x) (hR : ∀ z ∈ r, RExprAt z) (hr : x.kind = 10 → 1 ≤ x.op ∧ x.op ≤ 11) (hl : (textN x).e.length ≤ 100000000) (_hs : s.size ≤ 600) (hlen : sum4 (r.map textN) ≤ 100000000) (hrl : r.length ≤ 1000000) (hlow : decide (rankT x.kind x.op < 8) = false) (h13q : (x.kind == 13) = true) : RExprAt (.mk 15 o n s ns (x :: r) p) := by
  intro B w nv kv hB h1
  obtain ⟨hs1, hk1⟩ := ndIn_mk.1 h1.out
  obtain ⟨a1, q1, rfl, _⟩ := strsIn_cases hs1
  obtain ⟨a2, q2, rfl, hkk⟩ := kidsIn_cases hk1
  have hcap := (kidsIn_cap hk1).resolve_left (by simp)
  obtain ⟨b, off, rfl, hbB, hat⟩ := hkk.resolve_left (by simp)
  obtain ⟨nv0, kv0, hnode, hin⟩ := ndsAt_get hat 0 (by simp)
  simp only [List.getElem_cons_zero, Nat.zero_mul, Nat.add_zero] at hnode hin
  simp only [Nd.kind, Nd.op, Nd.num, Nd.str, Nd.pl, List.length_cons] at hcap ⊢
  obtain ⟨b1, r1, b2, r2, rfl, rfl⟩ := ndIn_shape hin
  obtain ⟨c0, c1, c2, c3, c4, c5, c6⟩ := hnode
  obtain ⟨ao, hao, hao2⟩ : ∃ ao, (if q2 = 1 then some ⟨b, off, none⟩ else some ⟨b, off + 7, none⟩ : Option Addr) = ao ∧ KidsIn B w (.slice ao r.length (q2 - 1)) r := by
    by_cases hq : q2 = 1
    · have hr0 : r = [] := List.length_eq_zero_iff.1 (by omega)
      rw [if_pos hq]; subst hr0; exact ⟨_, rfl, .inl ⟨_, _, rfl, rfl⟩⟩
    · rw [if_neg hq]; exact ⟨_, rfl, rkids_tail hat hbB (by omega)⟩
  have hal := box2_below w (.cells #[.int .i64 15, .int .i64 o, .int .i64 n, .string s, .slice a1 ns.length q1, .slice (some ⟨b, off, none⟩) (r.length + 1) q2, .int .i64 p] 25) (.cells #[.int .i64 x.kind, .int .i64 x.op, .int .i64 x.num, .string x.str, .slice b1 x.names.length r1, .slice b2 x.kids.length r2, .int .i64 x.pl] 25)
  have hbx := boxes2 w 15 o n s (.slice a1 ns.length q1) (.slice (some ⟨b, off, none⟩) (r.length + 1) q2) p x.kind x.op x.num x.str (.slice b1 x.names.length r1) (.slice b2 x.kids.length r2) x.pl
  have C0 := hid (kc_1_mk hal (by simp; omega) hbx.1 hbx.2 (ndIn_on (hal.mono hB) _ _ _ hin) (kidsIn_on (hal.mono hB) hao2))
  have hbl : b < w.heap.size := by omega
  have HE := hid hE
  have HR := hid hR
  have hrb := brT_len true (textN x).e
  have hls := list_len (r.map textN)
  have HL := hid hl
  have HLN := hid hlen
  have HRK := hid (show rankT 15 o = 8 by simp [rankT])
  have HT := hid (show (⟨(textN (.mk 15 o n s ns (x :: r) p)).e.toArray⟩ : ByteArray) = ⟨(brT true (textN x).e).toArray⟩ ++ ⟨#[40]⟩ ++ ⟨(listT (r.map textN)).toArray⟩ ++ ⟨#[41]⟩ by
    rw [textN_mk]; apply ByteArray.ext
    have e : tightT (textN x) (if (textN x).kind = 13 then 9 else 8) = (brT true (textN x).e) := by
      rw [show true = (decide (rankT x.kind x.op < 8) || decide (x.kind = 13)) from (by rw [show decide (x.kind = 13) = true from decide_eq_true (by simpa using h13q), Bool.or_true]), tight_in, textN_rank, textN_kindR]
      by_cases h13 : x.kind = 13
      · rw [if_pos h13, h13, show rankT 13 x.op = 8 by simp [rankT]]; rfl
      · rw [if_neg h13, show decide (x.kind = 13) = false from decide_eq_false h13, Bool.or_false]
    simp [exprT, at0, argsT, e])
  have f1 : ¬ (9223372036854775807 < (brT true (textN x).e).length + 1) := by omega
  have f2 : ¬ (9223372036854775807 < (brT true (textN x).e).length + 1 + (listT (r.map textN)).length) := by omega
  have f3 : ¬ (9223372036854775807 < (brT true (textN x).e).length + 1 + (listT (r.map textN)).length + 1) := by omega
  clear hrb hls
  clear hal hbx hin hkk hat hs1 hk1 h1 hE hl hR hlen hao2
  go_enter Tryd.func53, Tryd.ntmps53
  go_wp2_with fail
  go_region_held3 (fun a => (Below w.heap.size w a ∧ B ≤ a.heap.size ∧ Box w.heap.size 15 o n s (.slice a1 ns.length q1) (.slice (some ⟨b, off, none⟩) (r.length + 1) q2) p a ∧ Box (w.heap.size + 1) x.kind x.op x.num x.str (.slice b1 x.names.length r1) (.slice b2 x.kids.length r2) x.pl a ∧ NdIn B a x (.slice b1 x.names.length r1) (.slice b2 x.kids.length r2) ∧ KidsIn B a (.slice ao r.length (q2 - 1)) r) ∧ a.cell? ⟨w.heap.size, 0, none⟩ = some (.int .i64 15) ∧ a.cell? ⟨w.heap.size, 1, none⟩ = some (.int .i64 o) ∧ a.cell? ⟨w.heap.size, 2, none⟩ = some (.int .i64 n) ∧ a.cell? ⟨w.heap.size, 3, none⟩ = some (.string s) ∧ a.cell? ⟨w.heap.size, 4, none⟩ = some (.slice a1 ns.length q1) ∧ a.cell? ⟨w.heap.size, 5, none⟩ = some (.slice (some ⟨b, off, none⟩) (r.length + 1) q2) ∧ a.cell? ⟨w.heap.size, 6, none⟩ = some (.int .i64 p) ∧ a.cell? ⟨w.heap.size + 1, 0, none⟩ = some (.int .i64 x.kind) ∧ a.cell? ⟨w.heap.size + 1, 1, none⟩ = some (.int .i64 x.op) ∧ a.cell? ⟨w.heap.size + 1, 2, none⟩ = some (.int .i64 x.num) ∧ a.cell? ⟨w.heap.size + 1, 3, none⟩ = some (.string x.str) ∧ a.cell? ⟨w.heap.size + 1, 4, none⟩ = some (.slice b1 x.names.length r1) ∧ a.cell? ⟨w.heap.size + 1, 5, none⟩ = some (.slice b2 x.kids.length r2) ∧ a.cell? ⟨w.heap.size + 1, 6, none⟩ = some (.int .i64 x.pl))
    (first | assumption | exact kc_1 (by assumption) bb | exact kc_1 C0.out (Below.refl _ _).drew | exact kc_1 (by assumption) (Below.refl _ _).drew)
    (first
      | (go_at_call_of 52 x; refine (rrank_calls x.kind x.op x.num x.str b1 x.names.length r1 b2 x.kids.length r2 x.pl _ hr).mono ?_; rintro e wx ⟨rfl, bb⟩)
      | (go_at_call 52; refine (rrank_calls 15 o n s a1 ns.length q1 (some ⟨b, off, none⟩) (r.length + 1) q2 p _ (fun h => absurd h (by decide))).mono ?_; rintro e wx ⟨he, bb⟩; rw [HRK.out] at he; subst he))
  all_goals
    rename_i hz
    have C1 := hid hz
    clear hz C0 c0 c1 c2 c3 c4 c5 c6
    obtain ⟨x0, x1, x2, x3, x4, x5, x6, y0, y1, y2, y3, y4, y5, y6⟩ := C1.out.2
    go_wp2_with fail
    first | go_region_held (fun a => (Below w.heap.size w a ∧ B ≤ a.heap.size ∧ Box w.heap.size 15 o n s (.slice a1 ns.length q1) (.slice (some ⟨b, off, none⟩) (r.length + 1) q2) p a ∧ Box (w.heap.size + 1) x.kind x.op x.num x.str (.slice b1 x.names.length r1) (.slice b2 x.kids.length r2) x.pl a ∧ NdIn B a x (.slice b1 x.names.length r1) (.slice b2 x.kids.length r2) ∧ KidsIn B a (.slice ao r.length (q2 - 1)) r) ∧ a.cell? ⟨w.heap.size, 0, none⟩ = some (.int .i64 15) ∧ a.cell? ⟨w.heap.size, 1, none⟩ = some (.int .i64 o) ∧ a.cell? ⟨w.heap.size, 2, none⟩ = some (.int .i64 n) ∧ a.cell? ⟨w.heap.size, 3, none⟩ = some (.string s) ∧ a.cell? ⟨w.heap.size, 4, none⟩ = some (.slice a1 ns.length q1) ∧ a.cell? ⟨w.heap.size, 5, none⟩ = some (.slice (some ⟨b, off, none⟩) (r.length + 1) q2) ∧ a.cell? ⟨w.heap.size, 6, none⟩ = some (.int .i64 p) ∧ a.cell? ⟨w.heap.size + 1, 0, none⟩ = some (.int .i64 x.kind) ∧ a.cell? ⟨w.heap.size + 1, 1, none⟩ = some (.int .i64 x.op) ∧ a.cell? ⟨w.heap.size + 1, 2, none⟩ = some (.int .i64 x.num) ∧ a.cell? ⟨w.heap.size + 1, 3, none⟩ = some (.string x.str) ∧ a.cell? ⟨w.heap.size + 1, 4, none⟩ = some (.slice b1 x.names.length r1) ∧ a.cell? ⟨w.heap.size + 1, 5, none⟩ = some (.slice b2 x.kids.length r2) ∧ a.cell? ⟨w.heap.size + 1, 6, none⟩ = some (.int .i64 x.pl))
      (first | assumption | exact kc_1 (by assumption) bb | exact kc_1 C1.out (Below.refl _ _).drew | exact kc_1 (by assumption) (Below.refl _ _).drew)
      (first
        | (go_at_call 70; refine (rlist_calls r HR.out HLN.out hrl B _ _ (kc_1_core (by assumption)).2.1 (hid (kc_1_core (by assumption)).2.2.2.2.2)).mono ?_; rintro e wx ⟨rfl, bb⟩)
        | (go_at_call 54; refine (rat_calls x HE.out true HL.out B _ _ _ (kc_1_core (by assumption)).2.1 (hid (kc_1_core (by assumption)).2.2.2.2.1)).mono ?_; rintro e wx ⟨rfl, bb⟩)) | fail
    all_goals
      rename_i hz
      have Z := hid hz.1.1
      clear hz
      go_wp2_with fail
      go_ret
      exact ⟨by rw [HT.out]; rfl, Z.out⟩

set_option maxHeartbeats 3200000 in
set_option maxRecDepth 100000 in
theorem rexpr_15_c (o n : Int) (s : ByteArray) (ns : List ByteArray) (x : Nd) (r : List Nd) (p : Int) (hE : RExprAt x) (hR : ∀ z ∈ r, RExprAt z) (hr : x.kind = 10 → 1 ≤ x.op ∧ x.op ≤ 11) (hl : (textN x).e.length ≤ 100000000) (_hs : s.size ≤ 600) (hlen : sum4 (r.map textN) ≤ 100000000) (hrl : r.length ≤ 1000000) (hlow : decide (rankT x.kind x.op < 8) = false) (h13q : (x.kind == 13) = false) : RExprAt (.mk 15 o n s ns (x :: r) p) := by
  intro B w nv kv hB h1
  obtain ⟨hs1, hk1⟩ := ndIn_mk.1 h1.out
  obtain ⟨a1, q1, rfl, _⟩ := strsIn_cases hs1
  obtain ⟨a2, q2, rfl, hkk⟩ := kidsIn_cases hk1
  have hcap := (kidsIn_cap hk1).resolve_left (by simp)
  obtain ⟨b, off, rfl, hbB, hat⟩ := hkk.resolve_left (by simp)
  obtain ⟨nv0, kv0, hnode, hin⟩ := ndsAt_get hat 0 (by simp)
  simp only [List.getElem_cons_zero, Nat.zero_mul, Nat.add_zero] at hnode hin
  simp only [Nd.kind, Nd.op, Nd.num, Nd.str, Nd.pl, List.length_cons] at hcap ⊢
  obtain ⟨b1, r1, b2, r2, rfl, rfl⟩ := ndIn_shape hin
  obtain ⟨c0, c1, c2, c3, c4, c5, c6⟩ := hnode
  obtain ⟨ao, hao, hao2⟩ : ∃ ao, (if q2 = 1 then some ⟨b, off, none⟩ else some ⟨b, off + 7, none⟩ : Option Addr) = ao ∧ KidsIn B w (.slice ao r.length (q2 - 1)) r := by
    by_cases hq : q2 = 1
    · have hr0 : r = [] := List.length_eq_zero_iff.1 (by omega)
      rw [if_pos hq]; subst hr0; exact ⟨_, rfl, .inl ⟨_, _, rfl, rfl⟩⟩
    · rw [if_neg hq]; exact ⟨_, rfl, rkids_tail hat hbB (by omega)⟩
  have hal := box2_below w (.cells #[.int .i64 15, .int .i64 o, .int .i64 n, .string s, .slice a1 ns.length q1, .slice (some ⟨b, off, none⟩) (r.length + 1) q2, .int .i64 p] 25) (.cells #[.int .i64 x.kind, .int .i64 x.op, .int .i64 x.num, .string x.str, .slice b1 x.names.length r1, .slice b2 x.kids.length r2, .int .i64 x.pl] 25)
  have hbx := boxes2 w 15 o n s (.slice a1 ns.length q1) (.slice (some ⟨b, off, none⟩) (r.length + 1) q2) p x.kind x.op x.num x.str (.slice b1 x.names.length r1) (.slice b2 x.kids.length r2) x.pl
  have C0 := hid (kc_1_mk hal (by simp; omega) hbx.1 hbx.2 (ndIn_on (hal.mono hB) _ _ _ hin) (kidsIn_on (hal.mono hB) hao2))
  have hbl : b < w.heap.size := by omega
  have HE := hid hE
  have HR := hid hR
  have hrb := brT_len false (textN x).e
  have hls := list_len (r.map textN)
  have HL := hid hl
  have HLN := hid hlen
  have HRK := hid (show rankT 15 o = 8 by simp [rankT])
  have HT := hid (show (⟨(textN (.mk 15 o n s ns (x :: r) p)).e.toArray⟩ : ByteArray) = ⟨(brT false (textN x).e).toArray⟩ ++ ⟨#[40]⟩ ++ ⟨(listT (r.map textN)).toArray⟩ ++ ⟨#[41]⟩ by
    rw [textN_mk]; apply ByteArray.ext
    have e : tightT (textN x) (if (textN x).kind = 13 then 9 else 8) = (brT false (textN x).e) := by
      rw [show false = (decide (rankT x.kind x.op < 8) || decide (x.kind = 13)) from (by rw [hlow, show decide (x.kind = 13) = false from decide_eq_false (by simpa using h13q)]; rfl), tight_in, textN_rank, textN_kindR]
      by_cases h13 : x.kind = 13
      · rw [if_pos h13, h13, show rankT 13 x.op = 8 by simp [rankT]]; rfl
      · rw [if_neg h13, show decide (x.kind = 13) = false from decide_eq_false h13, Bool.or_false]
    simp [exprT, at0, argsT, e])
  have f1 : ¬ (9223372036854775807 < (brT false (textN x).e).length + 1) := by omega
  have f2 : ¬ (9223372036854775807 < (brT false (textN x).e).length + 1 + (listT (r.map textN)).length) := by omega
  have f3 : ¬ (9223372036854775807 < (brT false (textN x).e).length + 1 + (listT (r.map textN)).length + 1) := by omega
  clear hrb hls
  clear hal hbx hin hkk hat hs1 hk1 h1 hE hl hR hlen hao2
  go_enter Tryd.func53, Tryd.ntmps53
  go_wp2_with fail
  go_region_held3 (fun a => (Below w.heap.size w a ∧ B ≤ a.heap.size ∧ Box w.heap.size 15 o n s (.slice a1 ns.length q1) (.slice (some ⟨b, off, none⟩) (r.length + 1) q2) p a ∧ Box (w.heap.size + 1) x.kind x.op x.num x.str (.slice b1 x.names.length r1) (.slice b2 x.kids.length r2) x.pl a ∧ NdIn B a x (.slice b1 x.names.length r1) (.slice b2 x.kids.length r2) ∧ KidsIn B a (.slice ao r.length (q2 - 1)) r) ∧ a.cell? ⟨w.heap.size, 0, none⟩ = some (.int .i64 15) ∧ a.cell? ⟨w.heap.size, 1, none⟩ = some (.int .i64 o) ∧ a.cell? ⟨w.heap.size, 2, none⟩ = some (.int .i64 n) ∧ a.cell? ⟨w.heap.size, 3, none⟩ = some (.string s) ∧ a.cell? ⟨w.heap.size, 4, none⟩ = some (.slice a1 ns.length q1) ∧ a.cell? ⟨w.heap.size, 5, none⟩ = some (.slice (some ⟨b, off, none⟩) (r.length + 1) q2) ∧ a.cell? ⟨w.heap.size, 6, none⟩ = some (.int .i64 p) ∧ a.cell? ⟨w.heap.size + 1, 0, none⟩ = some (.int .i64 x.kind) ∧ a.cell? ⟨w.heap.size + 1, 1, none⟩ = some (.int .i64 x.op) ∧ a.cell? ⟨w.heap.size + 1, 2, none⟩ = some (.int .i64 x.num) ∧ a.cell? ⟨w.heap.size + 1, 3, none⟩ = some (.string x.str) ∧ a.cell? ⟨w.heap.size + 1, 4, none⟩ = some (.slice b1 x.names.length r1) ∧ a.cell? ⟨w.heap.size + 1, 5, none⟩ = some (.slice b2 x.kids.length r2) ∧ a.cell? ⟨w.heap.size + 1, 6, none⟩ = some (.int .i64 x.pl))
    (first | assumption | exact kc_1 (by assumption) bb | exact kc_1 C0.out (Below.refl _ _).drew | exact kc_1 (by assumption) (Below.refl _ _).drew)
    (first
      | (go_at_call_of 52 x; refine (rrank_calls x.kind x.op x.num x.str b1 x.names.length r1 b2 x.kids.length r2 x.pl _ hr).mono ?_; rintro e wx ⟨rfl, bb⟩)
      | (go_at_call 52; refine (rrank_calls 15 o n s a1 ns.length q1 (some ⟨b, off, none⟩) (r.length + 1) q2 p _ (fun h => absurd h (by decide))).mono ?_; rintro e wx ⟨he, bb⟩; rw [HRK.out] at he; subst he))
  all_goals
    rename_i hz
    have C1 := hid hz
    clear hz C0 c0 c1 c2 c3 c4 c5 c6
    obtain ⟨x0, x1, x2, x3, x4, x5, x6, y0, y1, y2, y3, y4, y5, y6⟩ := C1.out.2
    go_wp2_with fail
    first | go_region_held (fun a => (Below w.heap.size w a ∧ B ≤ a.heap.size ∧ Box w.heap.size 15 o n s (.slice a1 ns.length q1) (.slice (some ⟨b, off, none⟩) (r.length + 1) q2) p a ∧ Box (w.heap.size + 1) x.kind x.op x.num x.str (.slice b1 x.names.length r1) (.slice b2 x.kids.length r2) x.pl a ∧ NdIn B a x (.slice b1 x.names.length r1) (.slice b2 x.kids.length r2) ∧ KidsIn B a (.slice ao r.length (q2 - 1)) r) ∧ a.cell? ⟨w.heap.size, 0, none⟩ = some (.int .i64 15) ∧ a.cell? ⟨w.heap.size, 1, none⟩ = some (.int .i64 o) ∧ a.cell? ⟨w.heap.size, 2, none⟩ = some (.int .i64 n) ∧ a.cell? ⟨w.heap.size, 3, none⟩ = some (.string s) ∧ a.cell? ⟨w.heap.size, 4, none⟩ = some (.slice a1 ns.length q1) ∧ a.cell? ⟨w.heap.size, 5, none⟩ = some (.slice (some ⟨b, off, none⟩) (r.length + 1) q2) ∧ a.cell? ⟨w.heap.size, 6, none⟩ = some (.int .i64 p) ∧ a.cell? ⟨w.heap.size + 1, 0, none⟩ = some (.int .i64 x.kind) ∧ a.cell? ⟨w.heap.size + 1, 1, none⟩ = some (.int .i64 x.op) ∧ a.cell? ⟨w.heap.size + 1, 2, none⟩ = some (.int .i64 x.num) ∧ a.cell? ⟨w.heap.size + 1, 3, none⟩ = some (.string x.str) ∧ a.cell? ⟨w.heap.size + 1, 4, none⟩ = some (.slice b1 x.names.length r1) ∧ a.cell? ⟨w.heap.size + 1, 5, none⟩ = some (.slice b2 x.kids.length r2) ∧ a.cell? ⟨w.heap.size + 1, 6, none⟩ = some (.int .i64 x.pl))
      (first | assumption | exact kc_1 (by assumption) bb | exact kc_1 C1.out (Below.refl _ _).drew | exact kc_1 (by assumption) (Below.refl _ _).drew)
      (first
        | (go_at_call 70; refine (rlist_calls r HR.out HLN.out hrl B _ _ (kc_1_core (by assumption)).2.1 (hid (kc_1_core (by assumption)).2.2.2.2.2)).mono ?_; rintro e wx ⟨rfl, bb⟩)
        | (go_at_call 54; refine (rat_calls x HE.out false HL.out B _ _ _ (kc_1_core (by assumption)).2.1 (hid (kc_1_core (by assumption)).2.2.2.2.1)).mono ?_; rintro e wx ⟨rfl, bb⟩)) | fail
    all_goals
      rename_i hz
      have Z := hid hz.1.1
      clear hz
      go_wp2_with fail
      go_ret
      exact ⟨by rw [HT.out]; rfl, Z.out⟩

theorem rexpr_15 (o n : Int) (s : ByteArray) (ns : List ByteArray) (x : Nd) (r : List Nd) (p : Int) (hE : RExprAt x) (hR : ∀ z ∈ r, RExprAt z) (hr : x.kind = 10 → 1 ≤ x.op ∧ x.op ≤ 11) (hl : (textN x).e.length ≤ 100000000) (hs : s.size ≤ 600) (hlen : sum4 (r.map textN) ≤ 100000000) (hrl : r.length ≤ 1000000) : RExprAt (.mk 15 o n s ns (x :: r) p) := by
  cases hlow : decide (rankT x.kind x.op < 8) with
  | true => exact rexpr_15_a o n s ns x r p hE hR hr hl hs hlen hrl hlow
  | false =>
    cases h13 : (x.kind == 13) with
    | true => exact rexpr_15_b o n s ns x r p hE hR hr hl hs hlen hrl hlow h13
    | false => exact rexpr_15_c o n s ns x r p hE hR hr hl hs hlen hrl hlow h13

end Go.Proofs.YtlnllpehifkjhaaDoor
