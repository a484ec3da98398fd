/- Which trees are right, as the document asks it; what Check says. -/
import Derived.Test.YtenpldenhgpneaaDoorRefFlds1
import Derived.Test.YtenpldenhgpneaaDoorRefFlds2
import Derived.Test.YtenpldenhgpneaaDoorRefFlds3
import Derived.Test.YtenpldenhgpneaaDoorRefFlds4
import Derived.Test.YtenpldenhgpneaaDoorRefHigh
import Derived.Test.YtenpldenhgpneaaDoorNdFew
import Derived.Deep.RegionHeld3
namespace Go.Proofs.YtenpldenhgpneaaDoor
open Go.RowKit

theorem fields_calls (k o n : Int) (s : ByteArray) (ns : List ByteArray) (a1 : Option Addr) (q1 : Nat) (a2 : Option Addr) (c2 q2 : Nat) (p : Int) (B : Nat) (w : World) (hB : B ≤ w.heap.size) (hS : Hid (StrsIn B (.slice a1 ns.length q1) ns w)) (hns : ns.length ≤ 1000000) :
    Calls Tryd.prog 53 #[.agg #[.int .i64 k, .int .i64 o, .int .i64 n, .string s, .slice a1 ns.length q1, .slice a2 c2 q2, .int .i64 p]] w fun e w' =>
      e = .returned (.bool (fieldsB k o n s ns)) ∧ Below w.heap.size w w' := by
  by_cases z9 : k = 9
  · subst z9; exact fields_9 o n s ns a1 q1 a2 c2 q2 p B w hB hS hns
  by_cases z10 : k = 10
  · subst z10; exact fields_10 o n s ns a1 q1 a2 c2 q2 p B w hB hS hns
  by_cases z17 : k = 17
  · subst z17; exact fields_17 o n s ns a1 q1 a2 c2 q2 p B w hB hS hns
  by_cases z2 : k = 2
  · subst z2; exact fields_2 o n s ns a1 q1 a2 c2 q2 p B w hB hS hns
  by_cases z3 : k = 3
  · subst z3; exact fields_3 o n s ns a1 q1 a2 c2 q2 p B w hB hS hns
  by_cases z4 : k = 4
  · subst z4; exact fields_4 o n s ns a1 q1 a2 c2 q2 p B w hB hS hns
  by_cases z5 : k = 5
  · subst z5; exact fields_5 o n s ns a1 q1 a2 c2 q2 p B w hB hS hns
  by_cases z21 : k = 21
  · subst z21; exact fields_21 o n s ns a1 q1 a2 c2 q2 p B w hB hS hns
  by_cases z22 : k = 22
  · subst z22; exact fields_22 o n s ns a1 q1 a2 c2 q2 p B w hB hS hns
  by_cases z13 : k = 13
  · subst z13; exact fields_13 o n s ns a1 q1 a2 c2 q2 p B w hB hS hns
  by_cases z16 : k = 16
  · subst z16; exact fields_16 o n s ns a1 q1 a2 c2 q2 p B w hB hS hns
  by_cases z23 : k = 23
  · subst z23; exact fields_23 o n s ns a1 q1 a2 c2 q2 p B w hB hS hns
  by_cases z25 : k = 25
  · subst z25; exact fields_25 o n s ns a1 q1 a2 c2 q2 p B w hB hS hns
  by_cases z7 : k = 7
  · subst z7; exact fields_7 o n s ns a1 q1 a2 c2 q2 p B w hB hS hns
  by_cases z8 : k = 8
  · subst z8; exact fields_8 o n s ns a1 q1 a2 c2 q2 p B w hB hS hns
  exact fields_other k ⟨z9, z10, z17, z2, z3, z4, z5, z21, z22, z13, z16, z23, z25, z7, z8⟩ o n s ns a1 q1 a2 c2 q2 p B w hB hS hns

theorem cnt_many (k o : Int) (m c : Nat) : cntOk k o m c = (decide (0 ≤ (manyT k o m).1) && (decide ((manyT k o m).1 ≤ c) && decide ((c : Int) ≤ (manyT k o m).2))) := by
  unfold cntOk manyT
  rw [Bool.eq_iff_iff]
  repeat' split
  all_goals first | (simp; done) | (simp; omega) | omega | (simp only [Bool.and_eq_true, decide_eq_true_eq, Bool.false_eq_true]; omega)
theorem ok_fields (k o n : Int) (s : ByteArray) (ns : List ByteArray) (c : Nat) : okB k o n s ns c = (fieldsB k o n s ns && cntOk k o ns.length c) := by
  unfold okB fieldsB; simp only [Bool.and_assoc]
theorem rightL_not : ∀ (ks : List Nd) (k : Int) (i j : Nat) (hj : j < ks.length), rightN ks[j] (wantK k (i + j)) = false → rightL ks k i = false
  | [], _, _, _, hj, _ => by cases hj
  | x :: r, k, i, 0, _, h => by rw [rightL]; simp only [List.getElem_cons_zero, Nat.add_zero] at h; rw [h]; rfl
  | x :: r, k, i, j + 1, hj, h => by
    rw [rightL, rightL_not r k (i + 1) j (by simpa using hj) (by simpa [Nat.add_assoc, Nat.add_comm 1 j] using h), Bool.and_false]
theorem rightL_yes : ∀ (ks : List Nd) (k : Int) (i : Nat), (∀ (j : Nat) (hj : j < ks.length), rightN ks[j] (wantK k (i + j)) = true) → rightL ks k i = true
  | [], _, _, _ => by rw [rightL]
  | x :: r, k, i, h => by
    rw [rightL, rightL_yes r k (i + 1) (fun j hj => by have := h (j + 1) (by simpa using hj); simpa [Nat.add_assoc, Nat.add_comm 1 j] using this)]
    have := h 0 (by simp)
    simpa using this

theorem kid_on {w a c : World} {b off : Nat} {k o n : Int} {s : ByteArray} {nv kv : Value} {p : Int} {x0 x1 x2 x6 : Int} {x3 : ByteArray} {xn xk : Value}
    (h : (Below w.heap.size w a ∧ b < a.heap.size ∧ Box w.heap.size k o n s nv kv p a) ∧ a.cell? ⟨w.heap.size, 0, none⟩ = some (.int .i64 k) ∧ a.cell? ⟨w.heap.size, 5, none⟩ = some kv ∧ a.cell? ⟨b, off, none⟩ = some (.int .i64 x0) ∧ a.cell? ⟨b, off + 1, none⟩ = some (.int .i64 x1) ∧ a.cell? ⟨b, off + 2, none⟩ = some (.int .i64 x2) ∧ a.cell? ⟨b, off + 3, none⟩ = some (.string x3) ∧ a.cell? ⟨b, off + 4, none⟩ = some xn ∧ a.cell? ⟨b, off + 5, none⟩ = some xk ∧ a.cell? ⟨b, off + 6, none⟩ = some (.int .i64 x6)) (q : Below a.heap.size a c) :
    (Below w.heap.size w c ∧ b < c.heap.size ∧ Box w.heap.size k o n s nv kv p c) ∧ c.cell? ⟨w.heap.size, 0, none⟩ = some (.int .i64 k) ∧ c.cell? ⟨w.heap.size, 5, none⟩ = some kv ∧ c.cell? ⟨b, off, none⟩ = some (.int .i64 x0) ∧ c.cell? ⟨b, off + 1, none⟩ = some (.int .i64 x1) ∧ c.cell? ⟨b, off + 2, none⟩ = some (.int .i64 x2) ∧ c.cell? ⟨b, off + 3, none⟩ = some (.string x3) ∧ c.cell? ⟨b, off + 4, none⟩ = some xn ∧ c.cell? ⟨b, off + 5, none⟩ = some xk ∧ c.cell? ⟨b, off + 6, none⟩ = some (.int .i64 x6) := by
  obtain ⟨⟨h1, h2, h4⟩, d0, d1, e0, e1, e2, e3, e4, e5, e6⟩ := h
  have g0 := box_lt h4
  exact ⟨⟨below_in h1 (Nat.le_refl _) q, Nat.lt_of_lt_of_le h2 q.size, box_on h4 q⟩, cell_keep q g0 d0, cell_keep q g0 d1,
    cell_keep q h2 e0, cell_keep q h2 e1, cell_keep q h2 e2, cell_keep q h2 e3, cell_keep q h2 e4, cell_keep q h2 e5, cell_keep q h2 e6⟩

/-- what is known of the document's Right at a node -/
def RRightAt (x : Nd) : Prop := ∀ (a : Nat) (B : Nat) (w : World) (nv kv : Value), 1 ≤ a → a ≤ 3 → B ≤ w.heap.size → Hid (NdIn B w x nv kv) → smallN x = true → countN x ≤ 1000000 →
    Calls Tryd.prog 34 #[.agg #[.int .i64 x.kind, .int .i64 x.op, .int .i64 x.num, .string x.str, nv, kv, .int .i64 x.pl], .int .i64 a] w fun e w' =>
      e = .returned (.bool (rightN x a)) ∧ Below w.heap.size w w'

set_option maxHeartbeats 6400000 in
set_option maxRecDepth 100000 in
theorem rright_8 (o n : Int) (s : ByteArray) (ns : List ByteArray) (ks : List Nd) (p : Int) (ih : ∀ x ∈ ks, RRightAt x) : RRightAt (.mk 8 o n s ns ks p) := by
  intro a B w nv kv ha1 ha3 hB h1 hsm hc
  obtain ⟨_, hns, _, hsk⟩ := small_mk hsm
  simp only [countN] at hc
  obtain ⟨hs1, hk1⟩ := ndIn_mk.1 h1.out
  obtain ⟨a1, q1, rfl, _⟩ := strsIn_cases hs1
  obtain ⟨a2, q2, rfl, hkk1⟩ := kidsIn_cases hk1
  have hlen := length_count ks
  simp only [Nd.kind, Nd.op, Nd.num, Nd.str, Nd.pl]
  have hal := box1_below w (.cells #[.int .i64 8, .int .i64 o, .int .i64 n, .string s, .slice a1 ns.length q1, .slice a2 ks.length q2, .int .i64 p] 25)
  have AL := hid hal
  have BX := hid (box_new w 8 o n s (.slice a1 ns.length q1) (.slice a2 ks.length q2) p)
  have S1 := hid (strsIn_on hs1 (hal.mono hB))
  have K1 := hid hkk1
  have IH := hid ih
  have HIS := hid (show isK 8 = 1 by decide)
  have HR := hid (show rightN (.mk 8 o n s ns ks p) a = ((1 == a) && ((fieldsB 8 o n s ns && (decide (0 ≤ (manyT 8 o ns.length).1) && (decide ((manyT 8 o ns.length).1 ≤ ks.length) && decide ((ks.length : Int) ≤ (manyT 8 o ns.length).2)))) && rightL ks 8 0)) by
    rw [rightN_mk, HIS.out, ok_fields, cnt_many])
  clear ih hs1 hk1 h1 hal hsm hkk1 HIS
  go_enter Tryd.func34, Tryd.ntmps34
  go_wp2_with fail
  refine (many_calls 8 o n s a1 ns.length q1 a2 ks.length q2 p _).mono ?_
  rintro e w1 ⟨rfl, b1⟩
  have B1 := hid (below_in AL.out (by simp) b1)
  have X1 := hid (box_on BX.out b1)
  have S2 := hid (strsIn_on S1.out (b1.mono (by simp; omega)))
  obtain ⟨c0, c1, c2, c3, c4, c5, c6⟩ := box_cells X1.out
  clear b1 AL BX S1
  generalize (manyT 8 o ns.length).1 = lo at *
  generalize (manyT 8 o ns.length).2 = hi at *
  by_cases hia : a = 1
  case neg =>
    have di : ((1 : Int) != (a : Int)) = true := by rw [bne_iff_ne]; omega
    have H := hid (show rightN (.mk 8 o n s ns ks p) a = false by rw [HR.out, beq_eq_false_iff_ne.2 (show 1 ≠ a by omega)]; rfl)
    clear hia HR
    go_wp2_with fail
    go_ret
    exact ⟨by rw [H.out]; rfl, B1.out⟩
  case pos =>
  subst hia
  replace HR := hid (HR.out.trans (by rw [beq_self_eq_true, Bool.true_and]))
  by_cases h0 : lo < 0
  case pos =>
    have H := hid (show rightN (.mk 8 o n s ns ks p) 1 = false by rw [HR.out, decide_eq_false (show ¬ 0 ≤ lo by omega)]; simp)
    clear HR
    go_wp2_with fail
    go_ret
    exact ⟨by rw [H.out]; rfl, B1.out⟩
  case neg =>
  by_cases hl : (ks.length : Int) < lo
  case pos =>
    have H := hid (show rightN (.mk 8 o n s ns ks p) 1 = false by rw [HR.out, decide_eq_false (show ¬ lo ≤ ks.length by omega)]; simp)
    clear HR
    go_wp2_with fail
    go_ret
    exact ⟨by rw [H.out]; rfl, B1.out⟩
  case neg =>
  by_cases hm : hi < (ks.length : Int)
  case pos =>
    have H := hid (show rightN (.mk 8 o n s ns ks p) 1 = false by rw [HR.out, decide_eq_false (show ¬ (ks.length : Int) ≤ hi by omega)]; simp)
    clear HR
    go_wp2_with fail
    go_ret
    exact ⟨by rw [H.out]; rfl, B1.out⟩
  case neg =>
  replace HR := hid (HR.out.trans (by rw [decide_eq_true (show 0 ≤ lo by omega), decide_eq_true (show lo ≤ ks.length by omega), decide_eq_true (show (ks.length : Int) ≤ hi by omega), Bool.true_and, Bool.true_and, Bool.and_true]))
  go_wp2_with fail
  refine (fields_calls 8 o n s ns a1 q1 a2 ks.length q2 p B _ (by have := B1.out.size; omega) S2 (by omega)).mono ?_
  rintro e w2 ⟨rfl, b2⟩
  have B2 := hid (below_in B1.out (Nat.le_refl _) b2)
  have X2 := hid (box_on X1.out b2)
  clear b2 B1 X1 S2 c0 c1 c2 c3 c4 c5 c6
  generalize fieldsB 8 o n s ns = fb at *
  cases fb
  · have H := hid (HR.out.trans (Bool.false_and _))
    clear HR
    go_wp2_with fail
    go_ret
    exact ⟨by rw [H.out]; rfl, B2.out⟩
  replace HR := hid (HR.out.trans (Bool.true_and _))
  go_wp2_with fail
  go_loopw [8] (fun i wr => ∃ j : Nat, j ≤ ks.length ∧ i = .int .i64 j ∧ (∀ (q : Nat) (hq : q < ks.length), q < j → rightN ks[q] (wantK 8 (0 + q)) = true) ∧ Below w.heap.size w wr ∧ Box w.heap.size 8 o n s (.slice a1 ns.length q1) (.slice a2 ks.length q2) p wr) (fun i _ => ks.length - (intOf i).toNat)
  case atStart => exact ⟨0, Nat.zero_le _, rfl, fun q _ h => absurd h (Nat.not_lt_zero _), B2.out, X2.out⟩
  case round =>
    clear B2 X2 h0 hl hm
    obtain ⟨j, hj, rfl, hq, hb, hx⟩ := hrel
    have BB := hid hb
    have c0 := (box_cells hx).1
    have c5 := (box_cells hx).2.2.2.2.2.1
    by_cases hjl : j < ks.length
    · obtain ⟨b, off, rfl, hbB, hat⟩ := K1.out.resolve_left (fun h => by rw [h] at hjl; cases hjl)
      obtain ⟨nv1, kv1, hnode, hin⟩ := ndsAt_get hat j hjl
      have hb' := hb.mono hB
      have C1 := nodeAt_on hnode hbB hb'
      have hin2 := ndIn_on hb' _ _ _ hin
      have ih := IH.out ks[j] (List.getElem_mem hjl)
      have hs1 := hsk ks[j] (List.getElem_mem hjl)
      have hcm := count_mem (List.getElem_mem hjl)
      have HN := hid (fun hn => rightL_not ks 8 0 j hjl hn)
      have HQ := hid (fun (he : rightN ks[j] (wantK 8 (0 + j)) = true) => show ∀ (q : Nat) (hq : q < ks.length), q < j + 1 → rightN ks[q] (wantK 8 (0 + q)) = true from fun q h1 h3 => by
        rcases Nat.lt_or_ge q j with h4 | h4
        · exact hq q h1 h4
        · obtain rfl : q = j := by omega
          exact he)
      generalize ks[j] = x at *
      have N1 := hid hin2
      have HS := hid hs1
      have hsz := hb.size
      have hbw : b < wr.heap.size := by omega
      obtain ⟨b1, r1, b2, r2, rfl, rfl⟩ := ndIn_shape hin
      have IH' := hid ih
      have PP : Hid ((Below w.heap.size w wr ∧ b < wr.heap.size ∧ Box w.heap.size 8 o n s (.slice a1 ns.length q1) (.slice (some ⟨b, off, none⟩) ks.length q2) p wr) ∧ wr.cell? ⟨w.heap.size, 0, none⟩ = some (.int .i64 8) ∧ wr.cell? ⟨w.heap.size, 5, none⟩ = some (.slice (some ⟨b, off, none⟩) ks.length q2) ∧ wr.cell? ⟨b, off + j * 7, none⟩ = some (.int .i64 x.kind) ∧ wr.cell? ⟨b, off + j * 7 + 1, none⟩ = some (.int .i64 x.op) ∧ wr.cell? ⟨b, off + j * 7 + 2, none⟩ = some (.int .i64 x.num) ∧ wr.cell? ⟨b, off + j * 7 + 3, none⟩ = some (.string x.str) ∧ wr.cell? ⟨b, off + j * 7 + 4, none⟩ = some (.slice b1 x.names.length r1) ∧ wr.cell? ⟨b, off + j * 7 + 5, none⟩ = some (.slice b2 x.kids.length r2) ∧ wr.cell? ⟨b, off + j * 7 + 6, none⟩ = some (.int .i64 x.pl)) := ⟨⟨hb, hbw, hx⟩, c0, c5, C1.1, C1.2.1, C1.2.2.1, C1.2.2.2.1, C1.2.2.2.2.1, C1.2.2.2.2.2.1, C1.2.2.2.2.2.2⟩
      clear hin hin2 hnode hat hb hb' ih K1 IH hq hs1 hsk hx C1
      by_cases hj0 : 0 < j
      · have HW := hid (show wantK 8 (0 + j) = 2 by unfold wantK; grind)
        obtain ⟨e0, e1, e2, e3, e4, e5, e6⟩ := PP.out.2.2.2
        go_wp2_with fail
        refine (IH'.out 2 B _ _ _ (by decide) (by decide) (by show B ≤ _; omega) (hid N1.out) HS.out (by omega)).mono ?_
        rintro e w3 ⟨rfl, b3⟩
        have Z := hid (kid_on PP.out b3)
        clear b3 PP BB N1 c0 c5
        rw [HW.out] at HN HQ
        generalize rightN x 2 = sb at *
        cases sb
        · have H := hid (HR.out.trans (HN.out rfl))
          clear HN HQ
          go_wp2_with fail
          go_ret
          exact ⟨by rw [H.out]; rfl, Z.out.1.1⟩
        · have H := hid (HQ.out rfl)
          clear HN HQ
          obtain ⟨d0, d5, _⟩ := Z.out.2
          go_wp2_with fail
          go_roundw
          case rel => exact ⟨j + 1, by omega, by go_num, H.out, Z.out.1.1, Z.out.1.2.2⟩
          case measure => simp [intOf]; omega
      · have HW := hid (show wantK 8 (0 + j) = 2 by unfold wantK; grind)
        obtain ⟨e0, e1, e2, e3, e4, e5, e6⟩ := PP.out.2.2.2
        go_wp2_with fail
        refine (IH'.out 2 B _ _ _ (by decide) (by decide) (by show B ≤ _; omega) (hid N1.out) HS.out (by omega)).mono ?_
        rintro e w3 ⟨rfl, b3⟩
        have Z := hid (kid_on PP.out b3)
        clear b3 PP BB N1 c0 c5
        rw [HW.out] at HN HQ
        generalize rightN x 2 = sb at *
        cases sb
        · have H := hid (HR.out.trans (HN.out rfl))
          clear HN HQ
          go_wp2_with fail
          go_ret
          exact ⟨by rw [H.out]; rfl, Z.out.1.1⟩
        · have H := hid (HQ.out rfl)
          clear HN HQ
          obtain ⟨d0, d5, _⟩ := Z.out.2
          go_wp2_with fail
          go_roundw
          case rel => exact ⟨j + 1, by omega, by go_num, H.out, Z.out.1.1, Z.out.1.2.2⟩
          case measure => simp [intOf]; omega
    · have H := hid (HR.out.trans (rightL_yes ks 8 0 (fun q h1 => hq q h1 (by omega))))
      clear hq hb hx
      go_wp2_with fail
      go_ret
      exact ⟨by rw [H.out]; rfl, BB.out⟩

set_option maxHeartbeats 6400000 in
set_option maxRecDepth 100000 in
theorem rright_29 (o n : Int) (s : ByteArray) (ns : List ByteArray) (ks : List Nd) (p : Int) (ih : ∀ x ∈ ks, RRightAt x) : RRightAt (.mk 29 o n s ns ks p) := by
  intro a B w nv kv ha1 ha3 hB h1 hsm hc
  obtain ⟨_, hns, _, hsk⟩ := small_mk hsm
  simp only [countN] at hc
  obtain ⟨hs1, hk1⟩ := ndIn_mk.1 h1.out
  obtain ⟨a1, q1, rfl, _⟩ := strsIn_cases hs1
  obtain ⟨a2, q2, rfl, hkk1⟩ := kidsIn_cases hk1
  have hlen := length_count ks
  simp only [Nd.kind, Nd.op, Nd.num, Nd.str, Nd.pl]
  have hal := box1_below w (.cells #[.int .i64 29, .int .i64 o, .int .i64 n, .string s, .slice a1 ns.length q1, .slice a2 ks.length q2, .int .i64 p] 25)
  have AL := hid hal
  have BX := hid (box_new w 29 o n s (.slice a1 ns.length q1) (.slice a2 ks.length q2) p)
  have S1 := hid (strsIn_on hs1 (hal.mono hB))
  have K1 := hid hkk1
  have IH := hid ih
  have HIS := hid (show isK 29 = 3 by decide)
  have HR := hid (show rightN (.mk 29 o n s ns ks p) a = ((3 == a) && ((fieldsB 29 o n s ns && (decide (0 ≤ (manyT 29 o ns.length).1) && (decide ((manyT 29 o ns.length).1 ≤ ks.length) && decide ((ks.length : Int) ≤ (manyT 29 o ns.length).2)))) && rightL ks 29 0)) by
    rw [rightN_mk, HIS.out, ok_fields, cnt_many])
  clear ih hs1 hk1 h1 hal hsm hkk1 HIS
  go_enter Tryd.func34, Tryd.ntmps34
  go_wp2_with fail
  refine (many_calls 29 o n s a1 ns.length q1 a2 ks.length q2 p _).mono ?_
  rintro e w1 ⟨rfl, b1⟩
  have B1 := hid (below_in AL.out (by simp) b1)
  have X1 := hid (box_on BX.out b1)
  have S2 := hid (strsIn_on S1.out (b1.mono (by simp; omega)))
  obtain ⟨c0, c1, c2, c3, c4, c5, c6⟩ := box_cells X1.out
  clear b1 AL BX S1
  generalize (manyT 29 o ns.length).1 = lo at *
  generalize (manyT 29 o ns.length).2 = hi at *
  by_cases hia : a = 3
  case neg =>
    have di : ((3 : Int) != (a : Int)) = true := by rw [bne_iff_ne]; omega
    have H := hid (show rightN (.mk 29 o n s ns ks p) a = false by rw [HR.out, beq_eq_false_iff_ne.2 (show 3 ≠ a by omega)]; rfl)
    clear hia HR
    go_wp2_with fail
    go_ret
    exact ⟨by rw [H.out]; rfl, B1.out⟩
  case pos =>
  subst hia
  replace HR := hid (HR.out.trans (by rw [beq_self_eq_true, Bool.true_and]))
  by_cases h0 : lo < 0
  case pos =>
    have H := hid (show rightN (.mk 29 o n s ns ks p) 3 = false by rw [HR.out, decide_eq_false (show ¬ 0 ≤ lo by omega)]; simp)
    clear HR
    go_wp2_with fail
    go_ret
    exact ⟨by rw [H.out]; rfl, B1.out⟩
  case neg =>
  by_cases hl : (ks.length : Int) < lo
  case pos =>
    have H := hid (show rightN (.mk 29 o n s ns ks p) 3 = false by rw [HR.out, decide_eq_false (show ¬ lo ≤ ks.length by omega)]; simp)
    clear HR
    go_wp2_with fail
    go_ret
    exact ⟨by rw [H.out]; rfl, B1.out⟩
  case neg =>
  by_cases hm : hi < (ks.length : Int)
  case pos =>
    have H := hid (show rightN (.mk 29 o n s ns ks p) 3 = false by rw [HR.out, decide_eq_false (show ¬ (ks.length : Int) ≤ hi by omega)]; simp)
    clear HR
    go_wp2_with fail
    go_ret
    exact ⟨by rw [H.out]; rfl, B1.out⟩
  case neg =>
  replace HR := hid (HR.out.trans (by rw [decide_eq_true (show 0 ≤ lo by omega), decide_eq_true (show lo ≤ ks.length by omega), decide_eq_true (show (ks.length : Int) ≤ hi by omega), Bool.true_and, Bool.true_and, Bool.and_true]))
  go_wp2_with fail
  refine (fields_calls 29 o n s ns a1 q1 a2 ks.length q2 p B _ (by have := B1.out.size; omega) S2 (by omega)).mono ?_
  rintro e w2 ⟨rfl, b2⟩
  have B2 := hid (below_in B1.out (Nat.le_refl _) b2)
  have X2 := hid (box_on X1.out b2)
  clear b2 B1 X1 S2 c0 c1 c2 c3 c4 c5 c6
  generalize fieldsB 29 o n s ns = fb at *
  cases fb
  · have H := hid (HR.out.trans (Bool.false_and _))
    clear HR
    go_wp2_with fail
    go_ret
    exact ⟨by rw [H.out]; rfl, B2.out⟩
  replace HR := hid (HR.out.trans (Bool.true_and _))
  go_wp2_with fail
  go_loopw [8] (fun i wr => ∃ j : Nat, j ≤ ks.length ∧ i = .int .i64 j ∧ (∀ (q : Nat) (hq : q < ks.length), q < j → rightN ks[q] (wantK 29 (0 + q)) = true) ∧ Below w.heap.size w wr ∧ Box w.heap.size 29 o n s (.slice a1 ns.length q1) (.slice a2 ks.length q2) p wr) (fun i _ => ks.length - (intOf i).toNat)
  case atStart => exact ⟨0, Nat.zero_le _, rfl, fun q _ h => absurd h (Nat.not_lt_zero _), B2.out, X2.out⟩
  case round =>
    clear B2 X2 h0 hl hm
    obtain ⟨j, hj, rfl, hq, hb, hx⟩ := hrel
    have BB := hid hb
    have c0 := (box_cells hx).1
    have c5 := (box_cells hx).2.2.2.2.2.1
    by_cases hjl : j < ks.length
    · obtain ⟨b, off, rfl, hbB, hat⟩ := K1.out.resolve_left (fun h => by rw [h] at hjl; cases hjl)
      obtain ⟨nv1, kv1, hnode, hin⟩ := ndsAt_get hat j hjl
      have hb' := hb.mono hB
      have C1 := nodeAt_on hnode hbB hb'
      have hin2 := ndIn_on hb' _ _ _ hin
      have ih := IH.out ks[j] (List.getElem_mem hjl)
      have hs1 := hsk ks[j] (List.getElem_mem hjl)
      have hcm := count_mem (List.getElem_mem hjl)
      have HN := hid (fun hn => rightL_not ks 29 0 j hjl hn)
      have HQ := hid (fun (he : rightN ks[j] (wantK 29 (0 + j)) = true) => show ∀ (q : Nat) (hq : q < ks.length), q < j + 1 → rightN ks[q] (wantK 29 (0 + q)) = true from fun q h1 h3 => by
        rcases Nat.lt_or_ge q j with h4 | h4
        · exact hq q h1 h4
        · obtain rfl : q = j := by omega
          exact he)
      generalize ks[j] = x at *
      have N1 := hid hin2
      have HS := hid hs1
      have hsz := hb.size
      have hbw : b < wr.heap.size := by omega
      obtain ⟨b1, r1, b2, r2, rfl, rfl⟩ := ndIn_shape hin
      have IH' := hid ih
      have PP : Hid ((Below w.heap.size w wr ∧ b < wr.heap.size ∧ Box w.heap.size 29 o n s (.slice a1 ns.length q1) (.slice (some ⟨b, off, none⟩) ks.length q2) p wr) ∧ wr.cell? ⟨w.heap.size, 0, none⟩ = some (.int .i64 29) ∧ wr.cell? ⟨w.heap.size, 5, none⟩ = some (.slice (some ⟨b, off, none⟩) ks.length q2) ∧ wr.cell? ⟨b, off + j * 7, none⟩ = some (.int .i64 x.kind) ∧ wr.cell? ⟨b, off + j * 7 + 1, none⟩ = some (.int .i64 x.op) ∧ wr.cell? ⟨b, off + j * 7 + 2, none⟩ = some (.int .i64 x.num) ∧ wr.cell? ⟨b, off + j * 7 + 3, none⟩ = some (.string x.str) ∧ wr.cell? ⟨b, off + j * 7 + 4, none⟩ = some (.slice b1 x.names.length r1) ∧ wr.cell? ⟨b, off + j * 7 + 5, none⟩ = some (.slice b2 x.kids.length r2) ∧ wr.cell? ⟨b, off + j * 7 + 6, none⟩ = some (.int .i64 x.pl)) := ⟨⟨hb, hbw, hx⟩, c0, c5, C1.1, C1.2.1, C1.2.2.1, C1.2.2.2.1, C1.2.2.2.2.1, C1.2.2.2.2.2.1, C1.2.2.2.2.2.2⟩
      clear hin hin2 hnode hat hb hb' ih K1 IH hq hs1 hsk hx C1
      by_cases hj0 : 0 < j
      · have HW := hid (show wantK 29 (0 + j) = 2 by unfold wantK; grind)
        obtain ⟨e0, e1, e2, e3, e4, e5, e6⟩ := PP.out.2.2.2
        go_wp2_with fail
        refine (IH'.out 2 B _ _ _ (by decide) (by decide) (by show B ≤ _; omega) (hid N1.out) HS.out (by omega)).mono ?_
        rintro e w3 ⟨rfl, b3⟩
        have Z := hid (kid_on PP.out b3)
        clear b3 PP BB N1 c0 c5
        rw [HW.out] at HN HQ
        generalize rightN x 2 = sb at *
        cases sb
        · have H := hid (HR.out.trans (HN.out rfl))
          clear HN HQ
          go_wp2_with fail
          go_ret
          exact ⟨by rw [H.out]; rfl, Z.out.1.1⟩
        · have H := hid (HQ.out rfl)
          clear HN HQ
          obtain ⟨d0, d5, _⟩ := Z.out.2
          go_wp2_with fail
          go_roundw
          case rel => exact ⟨j + 1, by omega, by go_num, H.out, Z.out.1.1, Z.out.1.2.2⟩
          case measure => simp [intOf]; omega
      · have HW := hid (show wantK 29 (0 + j) = 2 by unfold wantK; grind)
        obtain ⟨e0, e1, e2, e3, e4, e5, e6⟩ := PP.out.2.2.2
        go_wp2_with fail
        refine (IH'.out 2 B _ _ _ (by decide) (by decide) (by show B ≤ _; omega) (hid N1.out) HS.out (by omega)).mono ?_
        rintro e w3 ⟨rfl, b3⟩
        have Z := hid (kid_on PP.out b3)
        clear b3 PP BB N1 c0 c5
        rw [HW.out] at HN HQ
        generalize rightN x 2 = sb at *
        cases sb
        · have H := hid (HR.out.trans (HN.out rfl))
          clear HN HQ
          go_wp2_with fail
          go_ret
          exact ⟨by rw [H.out]; rfl, Z.out.1.1⟩
        · have H := hid (HQ.out rfl)
          clear HN HQ
          obtain ⟨d0, d5, _⟩ := Z.out.2
          go_wp2_with fail
          go_roundw
          case rel => exact ⟨j + 1, by omega, by go_num, H.out, Z.out.1.1, Z.out.1.2.2⟩
          case measure => simp [intOf]; omega
    · have H := hid (HR.out.trans (rightL_yes ks 29 0 (fun q h1 => hq q h1 (by omega))))
      clear hq hb hx
      go_wp2_with fail
      go_ret
      exact ⟨by rw [H.out]; rfl, BB.out⟩

set_option maxHeartbeats 6400000 in
set_option maxRecDepth 100000 in
theorem rright_28 (o n : Int) (s : ByteArray) (ns : List ByteArray) (ks : List Nd) (p : Int) (ih : ∀ x ∈ ks, RRightAt x) : RRightAt (.mk 28 o n s ns ks p) := by
  intro a B w nv kv ha1 ha3 hB h1 hsm hc
  obtain ⟨_, hns, _, hsk⟩ := small_mk hsm
  simp only [countN] at hc
  obtain ⟨hs1, hk1⟩ := ndIn_mk.1 h1.out
  obtain ⟨a1, q1, rfl, _⟩ := strsIn_cases hs1
  obtain ⟨a2, q2, rfl, hkk1⟩ := kidsIn_cases hk1
  have hlen := length_count ks
  simp only [Nd.kind, Nd.op, Nd.num, Nd.str, Nd.pl]
  have hal := box1_below w (.cells #[.int .i64 28, .int .i64 o, .int .i64 n, .string s, .slice a1 ns.length q1, .slice a2 ks.length q2, .int .i64 p] 25)
  have AL := hid hal
  have BX := hid (box_new w 28 o n s (.slice a1 ns.length q1) (.slice a2 ks.length q2) p)
  have S1 := hid (strsIn_on hs1 (hal.mono hB))
  have K1 := hid hkk1
  have IH := hid ih
  have HIS := hid (show isK 28 = 2 by decide)
  have HR := hid (show rightN (.mk 28 o n s ns ks p) a = ((2 == a) && ((fieldsB 28 o n s ns && (decide (0 ≤ (manyT 28 o ns.length).1) && (decide ((manyT 28 o ns.length).1 ≤ ks.length) && decide ((ks.length : Int) ≤ (manyT 28 o ns.length).2)))) && rightL ks 28 0)) by
    rw [rightN_mk, HIS.out, ok_fields, cnt_many])
  clear ih hs1 hk1 h1 hal hsm hkk1 HIS
  go_enter Tryd.func34, Tryd.ntmps34
  go_wp2_with fail
  refine (many_calls 28 o n s a1 ns.length q1 a2 ks.length q2 p _).mono ?_
  rintro e w1 ⟨rfl, b1⟩
  have B1 := hid (below_in AL.out (by simp) b1)
  have X1 := hid (box_on BX.out b1)
  have S2 := hid (strsIn_on S1.out (b1.mono (by simp; omega)))
  obtain ⟨c0, c1, c2, c3, c4, c5, c6⟩ := box_cells X1.out
  clear b1 AL BX S1
  generalize (manyT 28 o ns.length).1 = lo at *
  generalize (manyT 28 o ns.length).2 = hi at *
  by_cases hia : a = 2
  case neg =>
    have di : ((2 : Int) != (a : Int)) = true := by rw [bne_iff_ne]; omega
    have H := hid (show rightN (.mk 28 o n s ns ks p) a = false by rw [HR.out, beq_eq_false_iff_ne.2 (show 2 ≠ a by omega)]; rfl)
    clear hia HR
    go_wp2_with fail
    go_ret
    exact ⟨by rw [H.out]; rfl, B1.out⟩
  case pos =>
  subst hia
  replace HR := hid (HR.out.trans (by rw [beq_self_eq_true, Bool.true_and]))
  by_cases h0 : lo < 0
  case pos =>
    have H := hid (show rightN (.mk 28 o n s ns ks p) 2 = false by rw [HR.out, decide_eq_false (show ¬ 0 ≤ lo by omega)]; simp)
    clear HR
    go_wp2_with fail
    go_ret
    exact ⟨by rw [H.out]; rfl, B1.out⟩
  case neg =>
  by_cases hl : (ks.length : Int) < lo
  case pos =>
    have H := hid (show rightN (.mk 28 o n s ns ks p) 2 = false by rw [HR.out, decide_eq_false (show ¬ lo ≤ ks.length by omega)]; simp)
    clear HR
    go_wp2_with fail
    go_ret
    exact ⟨by rw [H.out]; rfl, B1.out⟩
  case neg =>
  by_cases hm : hi < (ks.length : Int)
  case pos =>
    have H := hid (show rightN (.mk 28 o n s ns ks p) 2 = false by rw [HR.out, decide_eq_false (show ¬ (ks.length : Int) ≤ hi by omega)]; simp)
    clear HR
    go_wp2_with fail
    go_ret
    exact ⟨by rw [H.out]; rfl, B1.out⟩
  case neg =>
  replace HR := hid (HR.out.trans (by rw [decide_eq_true (show 0 ≤ lo by omega), decide_eq_true (show lo ≤ ks.length by omega), decide_eq_true (show (ks.length : Int) ≤ hi by omega), Bool.true_and, Bool.true_and, Bool.and_true]))
  go_wp2_with fail
  refine (fields_calls 28 o n s ns a1 q1 a2 ks.length q2 p B _ (by have := B1.out.size; omega) S2 (by omega)).mono ?_
  rintro e w2 ⟨rfl, b2⟩
  have B2 := hid (below_in B1.out (Nat.le_refl _) b2)
  have X2 := hid (box_on X1.out b2)
  clear b2 B1 X1 S2 c0 c1 c2 c3 c4 c5 c6
  generalize fieldsB 28 o n s ns = fb at *
  cases fb
  · have H := hid (HR.out.trans (Bool.false_and _))
    clear HR
    go_wp2_with fail
    go_ret
    exact ⟨by rw [H.out]; rfl, B2.out⟩
  replace HR := hid (HR.out.trans (Bool.true_and _))
  go_wp2_with fail
  go_loopw [8] (fun i wr => ∃ j : Nat, j ≤ ks.length ∧ i = .int .i64 j ∧ (∀ (q : Nat) (hq : q < ks.length), q < j → rightN ks[q] (wantK 28 (0 + q)) = true) ∧ Below w.heap.size w wr ∧ Box w.heap.size 28 o n s (.slice a1 ns.length q1) (.slice a2 ks.length q2) p wr) (fun i _ => ks.length - (intOf i).toNat)
  case atStart => exact ⟨0, Nat.zero_le _, rfl, fun q _ h => absurd h (Nat.not_lt_zero _), B2.out, X2.out⟩
  case round =>
    clear B2 X2 h0 hl hm
    obtain ⟨j, hj, rfl, hq, hb, hx⟩ := hrel
    have BB := hid hb
    have c0 := (box_cells hx).1
    have c5 := (box_cells hx).2.2.2.2.2.1
    by_cases hjl : j < ks.length
    · obtain ⟨b, off, rfl, hbB, hat⟩ := K1.out.resolve_left (fun h => by rw [h] at hjl; cases hjl)
      obtain ⟨nv1, kv1, hnode, hin⟩ := ndsAt_get hat j hjl
      have hb' := hb.mono hB
      have C1 := nodeAt_on hnode hbB hb'
      have hin2 := ndIn_on hb' _ _ _ hin
      have ih := IH.out ks[j] (List.getElem_mem hjl)
      have hs1 := hsk ks[j] (List.getElem_mem hjl)
      have hcm := count_mem (List.getElem_mem hjl)
      have HN := hid (fun hn => rightL_not ks 28 0 j hjl hn)
      have HQ := hid (fun (he : rightN ks[j] (wantK 28 (0 + j)) = true) => show ∀ (q : Nat) (hq : q < ks.length), q < j + 1 → rightN ks[q] (wantK 28 (0 + q)) = true from fun q h1 h3 => by
        rcases Nat.lt_or_ge q j with h4 | h4
        · exact hq q h1 h4
        · obtain rfl : q = j := by omega
          exact he)
      generalize ks[j] = x at *
      have N1 := hid hin2
      have HS := hid hs1
      have hsz := hb.size
      have hbw : b < wr.heap.size := by omega
      obtain ⟨b1, r1, b2, r2, rfl, rfl⟩ := ndIn_shape hin
      have IH' := hid ih
      have PP : Hid ((Below w.heap.size w wr ∧ b < wr.heap.size ∧ Box w.heap.size 28 o n s (.slice a1 ns.length q1) (.slice (some ⟨b, off, none⟩) ks.length q2) p wr) ∧ wr.cell? ⟨w.heap.size, 0, none⟩ = some (.int .i64 28) ∧ wr.cell? ⟨w.heap.size, 5, none⟩ = some (.slice (some ⟨b, off, none⟩) ks.length q2) ∧ wr.cell? ⟨b, off + j * 7, none⟩ = some (.int .i64 x.kind) ∧ wr.cell? ⟨b, off + j * 7 + 1, none⟩ = some (.int .i64 x.op) ∧ wr.cell? ⟨b, off + j * 7 + 2, none⟩ = some (.int .i64 x.num) ∧ wr.cell? ⟨b, off + j * 7 + 3, none⟩ = some (.string x.str) ∧ wr.cell? ⟨b, off + j * 7 + 4, none⟩ = some (.slice b1 x.names.length r1) ∧ wr.cell? ⟨b, off + j * 7 + 5, none⟩ = some (.slice b2 x.kids.length r2) ∧ wr.cell? ⟨b, off + j * 7 + 6, none⟩ = some (.int .i64 x.pl)) := ⟨⟨hb, hbw, hx⟩, c0, c5, C1.1, C1.2.1, C1.2.2.1, C1.2.2.2.1, C1.2.2.2.2.1, C1.2.2.2.2.2.1, C1.2.2.2.2.2.2⟩
      clear hin hin2 hnode hat hb hb' ih K1 IH hq hs1 hsk hx C1
      by_cases hj0 : 0 < j
      · have HW := hid (show wantK 28 (0 + j) = 3 by unfold wantK; grind)
        obtain ⟨e0, e1, e2, e3, e4, e5, e6⟩ := PP.out.2.2.2
        go_wp2_with fail
        refine (IH'.out 3 B _ _ _ (by decide) (by decide) (by show B ≤ _; omega) (hid N1.out) HS.out (by omega)).mono ?_
        rintro e w3 ⟨rfl, b3⟩
        have Z := hid (kid_on PP.out b3)
        clear b3 PP BB N1 c0 c5
        rw [HW.out] at HN HQ
        generalize rightN x 3 = sb at *
        cases sb
        · have H := hid (HR.out.trans (HN.out rfl))
          clear HN HQ
          go_wp2_with fail
          go_ret
          exact ⟨by rw [H.out]; rfl, Z.out.1.1⟩
        · have H := hid (HQ.out rfl)
          clear HN HQ
          obtain ⟨d0, d5, _⟩ := Z.out.2
          go_wp2_with fail
          go_roundw
          case rel => exact ⟨j + 1, by omega, by go_num, H.out, Z.out.1.1, Z.out.1.2.2⟩
          case measure => simp [intOf]; omega
      · have HW := hid (show wantK 28 (0 + j) = 1 by unfold wantK; grind)
        obtain ⟨e0, e1, e2, e3, e4, e5, e6⟩ := PP.out.2.2.2
        go_wp2_with fail
        refine (IH'.out 1 B _ _ _ (by decide) (by decide) (by show B ≤ _; omega) (hid N1.out) HS.out (by omega)).mono ?_
        rintro e w3 ⟨rfl, b3⟩
        have Z := hid (kid_on PP.out b3)
        clear b3 PP BB N1 c0 c5
        rw [HW.out] at HN HQ
        generalize rightN x 1 = sb at *
        cases sb
        · have H := hid (HR.out.trans (HN.out rfl))
          clear HN HQ
          go_wp2_with fail
          go_ret
          exact ⟨by rw [H.out]; rfl, Z.out.1.1⟩
        · have H := hid (HQ.out rfl)
          clear HN HQ
          obtain ⟨d0, d5, _⟩ := Z.out.2
          go_wp2_with fail
          go_roundw
          case rel => exact ⟨j + 1, by omega, by go_num, H.out, Z.out.1.1, Z.out.1.2.2⟩
          case measure => simp [intOf]; omega
    · have H := hid (HR.out.trans (rightL_yes ks 28 0 (fun q h1 => hq q h1 (by omega))))
      clear hq hb hx
      go_wp2_with fail
      go_ret
      exact ⟨by rw [H.out]; rfl, BB.out⟩

set_option maxHeartbeats 6400000 in
set_option maxRecDepth 100000 in
theorem rright_30 (o n : Int) (s : ByteArray) (ns : List ByteArray) (ks : List Nd) (p : Int) (ih : ∀ x ∈ ks, RRightAt x) : RRightAt (.mk 30 o n s ns ks p) := by
  intro a B w nv kv ha1 ha3 hB h1 hsm hc
  obtain ⟨_, hns, _, hsk⟩ := small_mk hsm
  simp only [countN] at hc
  obtain ⟨hs1, hk1⟩ := ndIn_mk.1 h1.out
  obtain ⟨a1, q1, rfl, _⟩ := strsIn_cases hs1
  obtain ⟨a2, q2, rfl, hkk1⟩ := kidsIn_cases hk1
  have hlen := length_count ks
  simp only [Nd.kind, Nd.op, Nd.num, Nd.str, Nd.pl]
  have hal := box1_below w (.cells #[.int .i64 30, .int .i64 o, .int .i64 n, .string s, .slice a1 ns.length q1, .slice a2 ks.length q2, .int .i64 p] 25)
  have AL := hid hal
  have BX := hid (box_new w 30 o n s (.slice a1 ns.length q1) (.slice a2 ks.length q2) p)
  have S1 := hid (strsIn_on hs1 (hal.mono hB))
  have K1 := hid hkk1
  have IH := hid ih
  have HIS := hid (show isK 30 = 2 by decide)
  have HR := hid (show rightN (.mk 30 o n s ns ks p) a = ((2 == a) && ((fieldsB 30 o n s ns && (decide (0 ≤ (manyT 30 o ns.length).1) && (decide ((manyT 30 o ns.length).1 ≤ ks.length) && decide ((ks.length : Int) ≤ (manyT 30 o ns.length).2)))) && rightL ks 30 0)) by
    rw [rightN_mk, HIS.out, ok_fields, cnt_many])
  clear ih hs1 hk1 h1 hal hsm hkk1 HIS
  go_enter Tryd.func34, Tryd.ntmps34
  go_wp2_with fail
  refine (many_calls 30 o n s a1 ns.length q1 a2 ks.length q2 p _).mono ?_
  rintro e w1 ⟨rfl, b1⟩
  have B1 := hid (below_in AL.out (by simp) b1)
  have X1 := hid (box_on BX.out b1)
  have S2 := hid (strsIn_on S1.out (b1.mono (by simp; omega)))
  obtain ⟨c0, c1, c2, c3, c4, c5, c6⟩ := box_cells X1.out
  clear b1 AL BX S1
  generalize (manyT 30 o ns.length).1 = lo at *
  generalize (manyT 30 o ns.length).2 = hi at *
  by_cases hia : a = 2
  case neg =>
    have di : ((2 : Int) != (a : Int)) = true := by rw [bne_iff_ne]; omega
    have H := hid (show rightN (.mk 30 o n s ns ks p) a = false by rw [HR.out, beq_eq_false_iff_ne.2 (show 2 ≠ a by omega)]; rfl)
    clear hia HR
    go_wp2_with fail
    go_ret
    exact ⟨by rw [H.out]; rfl, B1.out⟩
  case pos =>
  subst hia
  replace HR := hid (HR.out.trans (by rw [beq_self_eq_true, Bool.true_and]))
  by_cases h0 : lo < 0
  case pos =>
    have H := hid (show rightN (.mk 30 o n s ns ks p) 2 = false by rw [HR.out, decide_eq_false (show ¬ 0 ≤ lo by omega)]; simp)
    clear HR
    go_wp2_with fail
    go_ret
    exact ⟨by rw [H.out]; rfl, B1.out⟩
  case neg =>
  by_cases hl : (ks.length : Int) < lo
  case pos =>
    have H := hid (show rightN (.mk 30 o n s ns ks p) 2 = false by rw [HR.out, decide_eq_false (show ¬ lo ≤ ks.length by omega)]; simp)
    clear HR
    go_wp2_with fail
    go_ret
    exact ⟨by rw [H.out]; rfl, B1.out⟩
  case neg =>
  by_cases hm : hi < (ks.length : Int)
  case pos =>
    have H := hid (show rightN (.mk 30 o n s ns ks p) 2 = false by rw [HR.out, decide_eq_false (show ¬ (ks.length : Int) ≤ hi by omega)]; simp)
    clear HR
    go_wp2_with fail
    go_ret
    exact ⟨by rw [H.out]; rfl, B1.out⟩
  case neg =>
  replace HR := hid (HR.out.trans (by rw [decide_eq_true (show 0 ≤ lo by omega), decide_eq_true (show lo ≤ ks.length by omega), decide_eq_true (show (ks.length : Int) ≤ hi by omega), Bool.true_and, Bool.true_and, Bool.and_true]))
  go_wp2_with fail
  refine (fields_calls 30 o n s ns a1 q1 a2 ks.length q2 p B _ (by have := B1.out.size; omega) S2 (by omega)).mono ?_
  rintro e w2 ⟨rfl, b2⟩
  have B2 := hid (below_in B1.out (Nat.le_refl _) b2)
  have X2 := hid (box_on X1.out b2)
  clear b2 B1 X1 S2 c0 c1 c2 c3 c4 c5 c6
  generalize fieldsB 30 o n s ns = fb at *
  cases fb
  · have H := hid (HR.out.trans (Bool.false_and _))
    clear HR
    go_wp2_with fail
    go_ret
    exact ⟨by rw [H.out]; rfl, B2.out⟩
  replace HR := hid (HR.out.trans (Bool.true_and _))
  go_wp2_with fail
  go_loopw [8] (fun i wr => ∃ j : Nat, j ≤ ks.length ∧ i = .int .i64 j ∧ (∀ (q : Nat) (hq : q < ks.length), q < j → rightN ks[q] (wantK 30 (0 + q)) = true) ∧ Below w.heap.size w wr ∧ Box w.heap.size 30 o n s (.slice a1 ns.length q1) (.slice a2 ks.length q2) p wr) (fun i _ => ks.length - (intOf i).toNat)
  case atStart => exact ⟨0, Nat.zero_le _, rfl, fun q _ h => absurd h (Nat.not_lt_zero _), B2.out, X2.out⟩
  case round =>
    clear B2 X2 h0 hl hm
    obtain ⟨j, hj, rfl, hq, hb, hx⟩ := hrel
    have BB := hid hb
    have c0 := (box_cells hx).1
    have c5 := (box_cells hx).2.2.2.2.2.1
    by_cases hjl : j < ks.length
    · obtain ⟨b, off, rfl, hbB, hat⟩ := K1.out.resolve_left (fun h => by rw [h] at hjl; cases hjl)
      obtain ⟨nv1, kv1, hnode, hin⟩ := ndsAt_get hat j hjl
      have hb' := hb.mono hB
      have C1 := nodeAt_on hnode hbB hb'
      have hin2 := ndIn_on hb' _ _ _ hin
      have ih := IH.out ks[j] (List.getElem_mem hjl)
      have hs1 := hsk ks[j] (List.getElem_mem hjl)
      have hcm := count_mem (List.getElem_mem hjl)
      have HN := hid (fun hn => rightL_not ks 30 0 j hjl hn)
      have HQ := hid (fun (he : rightN ks[j] (wantK 30 (0 + j)) = true) => show ∀ (q : Nat) (hq : q < ks.length), q < j + 1 → rightN ks[q] (wantK 30 (0 + q)) = true from fun q h1 h3 => by
        rcases Nat.lt_or_ge q j with h4 | h4
        · exact hq q h1 h4
        · obtain rfl : q = j := by omega
          exact he)
      generalize ks[j] = x at *
      have N1 := hid hin2
      have HS := hid hs1
      have hsz := hb.size
      have hbw : b < wr.heap.size := by omega
      obtain ⟨b1, r1, b2, r2, rfl, rfl⟩ := ndIn_shape hin
      have IH' := hid ih
      have PP : Hid ((Below w.heap.size w wr ∧ b < wr.heap.size ∧ Box w.heap.size 30 o n s (.slice a1 ns.length q1) (.slice (some ⟨b, off, none⟩) ks.length q2) p wr) ∧ wr.cell? ⟨w.heap.size, 0, none⟩ = some (.int .i64 30) ∧ wr.cell? ⟨w.heap.size, 5, none⟩ = some (.slice (some ⟨b, off, none⟩) ks.length q2) ∧ wr.cell? ⟨b, off + j * 7, none⟩ = some (.int .i64 x.kind) ∧ wr.cell? ⟨b, off + j * 7 + 1, none⟩ = some (.int .i64 x.op) ∧ wr.cell? ⟨b, off + j * 7 + 2, none⟩ = some (.int .i64 x.num) ∧ wr.cell? ⟨b, off + j * 7 + 3, none⟩ = some (.string x.str) ∧ wr.cell? ⟨b, off + j * 7 + 4, none⟩ = some (.slice b1 x.names.length r1) ∧ wr.cell? ⟨b, off + j * 7 + 5, none⟩ = some (.slice b2 x.kids.length r2) ∧ wr.cell? ⟨b, off + j * 7 + 6, none⟩ = some (.int .i64 x.pl)) := ⟨⟨hb, hbw, hx⟩, c0, c5, C1.1, C1.2.1, C1.2.2.1, C1.2.2.2.1, C1.2.2.2.2.1, C1.2.2.2.2.2.1, C1.2.2.2.2.2.2⟩
      clear hin hin2 hnode hat hb hb' ih K1 IH hq hs1 hsk hx C1
      by_cases hj0 : 0 < j
      · have HW := hid (show wantK 30 (0 + j) = 3 by unfold wantK; grind)
        obtain ⟨e0, e1, e2, e3, e4, e5, e6⟩ := PP.out.2.2.2
        go_wp2_with fail
        refine (IH'.out 3 B _ _ _ (by decide) (by decide) (by show B ≤ _; omega) (hid N1.out) HS.out (by omega)).mono ?_
        rintro e w3 ⟨rfl, b3⟩
        have Z := hid (kid_on PP.out b3)
        clear b3 PP BB N1 c0 c5
        rw [HW.out] at HN HQ
        generalize rightN x 3 = sb at *
        cases sb
        · have H := hid (HR.out.trans (HN.out rfl))
          clear HN HQ
          go_wp2_with fail
          go_ret
          exact ⟨by rw [H.out]; rfl, Z.out.1.1⟩
        · have H := hid (HQ.out rfl)
          clear HN HQ
          obtain ⟨d0, d5, _⟩ := Z.out.2
          go_wp2_with fail
          go_roundw
          case rel => exact ⟨j + 1, by omega, by go_num, H.out, Z.out.1.1, Z.out.1.2.2⟩
          case measure => simp [intOf]; omega
      · have HW := hid (show wantK 30 (0 + j) = 1 by unfold wantK; grind)
        obtain ⟨e0, e1, e2, e3, e4, e5, e6⟩ := PP.out.2.2.2
        go_wp2_with fail
        refine (IH'.out 1 B _ _ _ (by decide) (by decide) (by show B ≤ _; omega) (hid N1.out) HS.out (by omega)).mono ?_
        rintro e w3 ⟨rfl, b3⟩
        have Z := hid (kid_on PP.out b3)
        clear b3 PP BB N1 c0 c5
        rw [HW.out] at HN HQ
        generalize rightN x 1 = sb at *
        cases sb
        · have H := hid (HR.out.trans (HN.out rfl))
          clear HN HQ
          go_wp2_with fail
          go_ret
          exact ⟨by rw [H.out]; rfl, Z.out.1.1⟩
        · have H := hid (HQ.out rfl)
          clear HN HQ
          obtain ⟨d0, d5, _⟩ := Z.out.2
          go_wp2_with fail
          go_roundw
          case rel => exact ⟨j + 1, by omega, by go_num, H.out, Z.out.1.1, Z.out.1.2.2⟩
          case measure => simp [intOf]; omega
    · have H := hid (HR.out.trans (rightL_yes ks 30 0 (fun q h1 => hq q h1 (by omega))))
      clear hq hb hx
      go_wp2_with fail
      go_ret
      exact ⟨by rw [H.out]; rfl, BB.out⟩

set_option maxHeartbeats 6400000 in
set_option maxRecDepth 100000 in
theorem rright_expr (k : Int) (o n : Int) (s : ByteArray) (ns : List ByteArray) (ks : List Nd) (p : Int) (hk : 1 ≤ k ∧ k ≤ 17 ∧ k ≠ 8) (ih : ∀ x ∈ ks, RRightAt x) : RRightAt (.mk k o n s ns ks p) := by
  have HK := hid hk
  intro a B w nv kv ha1 ha3 hB h1 hsm hc
  obtain ⟨_, hns, _, hsk⟩ := small_mk hsm
  simp only [countN] at hc
  obtain ⟨hs1, hk1⟩ := ndIn_mk.1 h1.out
  obtain ⟨a1, q1, rfl, _⟩ := strsIn_cases hs1
  obtain ⟨a2, q2, rfl, hkk1⟩ := kidsIn_cases hk1
  have hlen := length_count ks
  simp only [Nd.kind, Nd.op, Nd.num, Nd.str, Nd.pl]
  have hal := box1_below w (.cells #[.int .i64 k, .int .i64 o, .int .i64 n, .string s, .slice a1 ns.length q1, .slice a2 ks.length q2, .int .i64 p] 25)
  have AL := hid hal
  have BX := hid (box_new w k o n s (.slice a1 ns.length q1) (.slice a2 ks.length q2) p)
  have S1 := hid (strsIn_on hs1 (hal.mono hB))
  have K1 := hid hkk1
  have IH := hid ih
  have HIS := hid (show isK k = 1 by have hk := hk; unfold isK; grind)
  have HR := hid (show rightN (.mk k o n s ns ks p) a = ((1 == a) && ((fieldsB k o n s ns && (decide (0 ≤ (manyT k o ns.length).1) && (decide ((manyT k o ns.length).1 ≤ ks.length) && decide ((ks.length : Int) ≤ (manyT k o ns.length).2)))) && rightL ks k 0)) by
    rw [rightN_mk, HIS.out, ok_fields, cnt_many])
  clear ih hs1 hk1 h1 hal hsm hkk1 HIS
  have d1 : decide (1 ≤ k) = true := decide_eq_true (by omega)
  have d2 : decide (k ≤ 17) = true := decide_eq_true (by omega)
  have e8k : (k == 8) = false := beq_eq_false_iff_ne.2 (by omega)
  have e29k : (k == 29) = false := beq_eq_false_iff_ne.2 (by omega)
  have e28k : (k == 28) = false := beq_eq_false_iff_ne.2 (by omega)
  have e30k : (k == 30) = false := beq_eq_false_iff_ne.2 (by omega)
  go_enter Tryd.func34, Tryd.ntmps34
  go_wp2_with fail
  refine (many_calls k o n s a1 ns.length q1 a2 ks.length q2 p _).mono ?_
  rintro e w1 ⟨rfl, b1⟩
  have B1 := hid (below_in AL.out (by simp) b1)
  have X1 := hid (box_on BX.out b1)
  have S2 := hid (strsIn_on S1.out (b1.mono (by simp; omega)))
  obtain ⟨c0, c1, c2, c3, c4, c5, c6⟩ := box_cells X1.out
  clear b1 AL BX S1
  generalize (manyT k o ns.length).1 = lo at *
  generalize (manyT k o ns.length).2 = hi at *
  by_cases hia : a = 1
  case neg =>
    have di : ((1 : Int) != (a : Int)) = true := by rw [bne_iff_ne]; omega
    have H := hid (show rightN (.mk k o n s ns ks p) a = false by rw [HR.out, beq_eq_false_iff_ne.2 (show 1 ≠ a by omega)]; rfl)
    clear hia HR
    go_wp2_with fail
    go_ret
    exact ⟨by rw [H.out]; rfl, B1.out⟩
  case pos =>
  subst hia
  replace HR := hid (HR.out.trans (by rw [beq_self_eq_true, Bool.true_and]))
  by_cases h0 : lo < 0
  case pos =>
    have H := hid (show rightN (.mk k o n s ns ks p) 1 = false by rw [HR.out, decide_eq_false (show ¬ 0 ≤ lo by omega)]; simp)
    clear HR
    go_wp2_with fail
    go_ret
    exact ⟨by rw [H.out]; rfl, B1.out⟩
  case neg =>
  by_cases hl : (ks.length : Int) < lo
  case pos =>
    have H := hid (show rightN (.mk k o n s ns ks p) 1 = false by rw [HR.out, decide_eq_false (show ¬ lo ≤ ks.length by omega)]; simp)
    clear HR
    go_wp2_with fail
    go_ret
    exact ⟨by rw [H.out]; rfl, B1.out⟩
  case neg =>
  by_cases hm : hi < (ks.length : Int)
  case pos =>
    have H := hid (show rightN (.mk k o n s ns ks p) 1 = false by rw [HR.out, decide_eq_false (show ¬ (ks.length : Int) ≤ hi by omega)]; simp)
    clear HR
    go_wp2_with fail
    go_ret
    exact ⟨by rw [H.out]; rfl, B1.out⟩
  case neg =>
  replace HR := hid (HR.out.trans (by rw [decide_eq_true (show 0 ≤ lo by omega), decide_eq_true (show lo ≤ ks.length by omega), decide_eq_true (show (ks.length : Int) ≤ hi by omega), Bool.true_and, Bool.true_and, Bool.and_true]))
  go_wp2_with fail
  refine (fields_calls k o n s ns a1 q1 a2 ks.length q2 p B _ (by have := B1.out.size; omega) S2 (by omega)).mono ?_
  rintro e w2 ⟨rfl, b2⟩
  have B2 := hid (below_in B1.out (Nat.le_refl _) b2)
  have X2 := hid (box_on X1.out b2)
  clear b2 B1 X1 S2 c0 c1 c2 c3 c4 c5 c6
  generalize fieldsB k o n s ns = fb at *
  cases fb
  · have H := hid (HR.out.trans (Bool.false_and _))
    clear HR
    go_wp2_with fail
    go_ret
    exact ⟨by rw [H.out]; rfl, B2.out⟩
  replace HR := hid (HR.out.trans (Bool.true_and _))
  go_wp2_with fail
  go_loopw [8] (fun i wr => ∃ j : Nat, j ≤ ks.length ∧ i = .int .i64 j ∧ (∀ (q : Nat) (hq : q < ks.length), q < j → rightN ks[q] (wantK k (0 + q)) = true) ∧ Below w.heap.size w wr ∧ Box w.heap.size k o n s (.slice a1 ns.length q1) (.slice a2 ks.length q2) p wr) (fun i _ => ks.length - (intOf i).toNat)
  case atStart => exact ⟨0, Nat.zero_le _, rfl, fun q _ h => absurd h (Nat.not_lt_zero _), B2.out, X2.out⟩
  case round =>
    clear B2 X2 h0 hl hm
    obtain ⟨j, hj, rfl, hq, hb, hx⟩ := hrel
    have BB := hid hb
    have c0 := (box_cells hx).1
    have c5 := (box_cells hx).2.2.2.2.2.1
    by_cases hjl : j < ks.length
    · obtain ⟨b, off, rfl, hbB, hat⟩ := K1.out.resolve_left (fun h => by rw [h] at hjl; cases hjl)
      obtain ⟨nv1, kv1, hnode, hin⟩ := ndsAt_get hat j hjl
      have hb' := hb.mono hB
      have C1 := nodeAt_on hnode hbB hb'
      have hin2 := ndIn_on hb' _ _ _ hin
      have ih := IH.out ks[j] (List.getElem_mem hjl)
      have hs1 := hsk ks[j] (List.getElem_mem hjl)
      have hcm := count_mem (List.getElem_mem hjl)
      have HN := hid (fun hn => rightL_not ks k 0 j hjl hn)
      have HQ := hid (fun (he : rightN ks[j] (wantK k (0 + j)) = true) => show ∀ (q : Nat) (hq : q < ks.length), q < j + 1 → rightN ks[q] (wantK k (0 + q)) = true from fun q h1 h3 => by
        rcases Nat.lt_or_ge q j with h4 | h4
        · exact hq q h1 h4
        · obtain rfl : q = j := by omega
          exact he)
      generalize ks[j] = x at *
      have N1 := hid hin2
      have HS := hid hs1
      have hsz := hb.size
      have hbw : b < wr.heap.size := by omega
      obtain ⟨b1, r1, b2, r2, rfl, rfl⟩ := ndIn_shape hin
      have IH' := hid ih
      have PP : Hid ((Below w.heap.size w wr ∧ b < wr.heap.size ∧ Box w.heap.size k o n s (.slice a1 ns.length q1) (.slice (some ⟨b, off, none⟩) ks.length q2) p wr) ∧ wr.cell? ⟨w.heap.size, 0, none⟩ = some (.int .i64 k) ∧ wr.cell? ⟨w.heap.size, 5, none⟩ = some (.slice (some ⟨b, off, none⟩) ks.length q2) ∧ wr.cell? ⟨b, off + j * 7, none⟩ = some (.int .i64 x.kind) ∧ wr.cell? ⟨b, off + j * 7 + 1, none⟩ = some (.int .i64 x.op) ∧ wr.cell? ⟨b, off + j * 7 + 2, none⟩ = some (.int .i64 x.num) ∧ wr.cell? ⟨b, off + j * 7 + 3, none⟩ = some (.string x.str) ∧ wr.cell? ⟨b, off + j * 7 + 4, none⟩ = some (.slice b1 x.names.length r1) ∧ wr.cell? ⟨b, off + j * 7 + 5, none⟩ = some (.slice b2 x.kids.length r2) ∧ wr.cell? ⟨b, off + j * 7 + 6, none⟩ = some (.int .i64 x.pl)) := ⟨⟨hb, hbw, hx⟩, c0, c5, C1.1, C1.2.1, C1.2.2.1, C1.2.2.2.1, C1.2.2.2.2.1, C1.2.2.2.2.2.1, C1.2.2.2.2.2.2⟩
      clear hin hin2 hnode hat hb hb' ih K1 IH hq hs1 hsk hx C1
      by_cases hj0 : 0 < j
      · have HW := hid (show wantK k (0 + j) = 1 by have hk := HK.out; unfold wantK; grind)
        obtain ⟨e0, e1, e2, e3, e4, e5, e6⟩ := PP.out.2.2.2
        go_wp2_with fail
        refine (IH'.out 1 B _ _ _ (by decide) (by decide) (by show B ≤ _; omega) (hid N1.out) HS.out (by omega)).mono ?_
        rintro e w3 ⟨rfl, b3⟩
        have Z := hid (kid_on PP.out b3)
        clear b3 PP BB N1 c0 c5
        rw [HW.out] at HN HQ
        generalize rightN x 1 = sb at *
        cases sb
        · have H := hid (HR.out.trans (HN.out rfl))
          clear HN HQ
          go_wp2_with fail
          go_ret
          exact ⟨by rw [H.out]; rfl, Z.out.1.1⟩
        · have H := hid (HQ.out rfl)
          clear HN HQ
          obtain ⟨d0, d5, _⟩ := Z.out.2
          go_wp2_with fail
          go_roundw
          case rel => exact ⟨j + 1, by omega, by go_num, H.out, Z.out.1.1, Z.out.1.2.2⟩
          case measure => simp [intOf]; omega
      · have HW := hid (show wantK k (0 + j) = 1 by have hk := HK.out; unfold wantK; grind)
        obtain ⟨e0, e1, e2, e3, e4, e5, e6⟩ := PP.out.2.2.2
        go_wp2_with fail
        refine (IH'.out 1 B _ _ _ (by decide) (by decide) (by show B ≤ _; omega) (hid N1.out) HS.out (by omega)).mono ?_
        rintro e w3 ⟨rfl, b3⟩
        have Z := hid (kid_on PP.out b3)
        clear b3 PP BB N1 c0 c5
        rw [HW.out] at HN HQ
        generalize rightN x 1 = sb at *
        cases sb
        · have H := hid (HR.out.trans (HN.out rfl))
          clear HN HQ
          go_wp2_with fail
          go_ret
          exact ⟨by rw [H.out]; rfl, Z.out.1.1⟩
        · have H := hid (HQ.out rfl)
          clear HN HQ
          obtain ⟨d0, d5, _⟩ := Z.out.2
          go_wp2_with fail
          go_roundw
          case rel => exact ⟨j + 1, by omega, by go_num, H.out, Z.out.1.1, Z.out.1.2.2⟩
          case measure => simp [intOf]; omega
    · have H := hid (HR.out.trans (rightL_yes ks k 0 (fun q h1 => hq q h1 (by omega))))
      clear hq hb hx
      go_wp2_with fail
      go_ret
      exact ⟨by rw [H.out]; rfl, BB.out⟩

set_option maxHeartbeats 6400000 in
set_option maxRecDepth 100000 in
theorem rright_stmt (k : Int) (o n : Int) (s : ByteArray) (ns : List ByteArray) (ks : List Nd) (p : Int) (hk : 21 ≤ k ∧ k ≤ 32 ∧ k ≠ 28 ∧ k ≠ 29 ∧ k ≠ 30) (ih : ∀ x ∈ ks, RRightAt x) : RRightAt (.mk k o n s ns ks p) := by
  have HK := hid hk
  intro a B w nv kv ha1 ha3 hB h1 hsm hc
  obtain ⟨_, hns, _, hsk⟩ := small_mk hsm
  simp only [countN] at hc
  obtain ⟨hs1, hk1⟩ := ndIn_mk.1 h1.out
  obtain ⟨a1, q1, rfl, _⟩ := strsIn_cases hs1
  obtain ⟨a2, q2, rfl, hkk1⟩ := kidsIn_cases hk1
  have hlen := length_count ks
  simp only [Nd.kind, Nd.op, Nd.num, Nd.str, Nd.pl]
  have hal := box1_below w (.cells #[.int .i64 k, .int .i64 o, .int .i64 n, .string s, .slice a1 ns.length q1, .slice a2 ks.length q2, .int .i64 p] 25)
  have AL := hid hal
  have BX := hid (box_new w k o n s (.slice a1 ns.length q1) (.slice a2 ks.length q2) p)
  have S1 := hid (strsIn_on hs1 (hal.mono hB))
  have K1 := hid hkk1
  have IH := hid ih
  have HIS := hid (show isK k = 2 by have hk := hk; unfold isK; grind)
  have HR := hid (show rightN (.mk k o n s ns ks p) a = ((2 == a) && ((fieldsB k o n s ns && (decide (0 ≤ (manyT k o ns.length).1) && (decide ((manyT k o ns.length).1 ≤ ks.length) && decide ((ks.length : Int) ≤ (manyT k o ns.length).2)))) && rightL ks k 0)) by
    rw [rightN_mk, HIS.out, ok_fields, cnt_many])
  clear ih hs1 hk1 h1 hal hsm hkk1 HIS
  have d1 : decide (1 ≤ k) = true := decide_eq_true (by omega)
  have d2 : decide (k ≤ 17) = false := decide_eq_false (by omega)
  have d3 : decide (21 ≤ k) = true := decide_eq_true (by omega)
  have d4 : decide (k ≤ 32) = true := decide_eq_true (by omega)
  have e8k : (k == 8) = false := beq_eq_false_iff_ne.2 (by omega)
  have e29k : (k == 29) = false := beq_eq_false_iff_ne.2 (by omega)
  have e28k : (k == 28) = false := beq_eq_false_iff_ne.2 (by omega)
  have e30k : (k == 30) = false := beq_eq_false_iff_ne.2 (by omega)
  go_enter Tryd.func34, Tryd.ntmps34
  go_wp2_with fail
  refine (many_calls k o n s a1 ns.length q1 a2 ks.length q2 p _).mono ?_
  rintro e w1 ⟨rfl, b1⟩
  have B1 := hid (below_in AL.out (by simp) b1)
  have X1 := hid (box_on BX.out b1)
  have S2 := hid (strsIn_on S1.out (b1.mono (by simp; omega)))
  obtain ⟨c0, c1, c2, c3, c4, c5, c6⟩ := box_cells X1.out
  clear b1 AL BX S1
  generalize (manyT k o ns.length).1 = lo at *
  generalize (manyT k o ns.length).2 = hi at *
  by_cases hia : a = 2
  case neg =>
    have di : ((2 : Int) != (a : Int)) = true := by rw [bne_iff_ne]; omega
    have H := hid (show rightN (.mk k o n s ns ks p) a = false by rw [HR.out, beq_eq_false_iff_ne.2 (show 2 ≠ a by omega)]; rfl)
    clear hia HR
    go_wp2_with fail
    go_ret
    exact ⟨by rw [H.out]; rfl, B1.out⟩
  case pos =>
  subst hia
  replace HR := hid (HR.out.trans (by rw [beq_self_eq_true, Bool.true_and]))
  by_cases h0 : lo < 0
  case pos =>
    have H := hid (show rightN (.mk k o n s ns ks p) 2 = false by rw [HR.out, decide_eq_false (show ¬ 0 ≤ lo by omega)]; simp)
    clear HR
    go_wp2_with fail
    go_ret
    exact ⟨by rw [H.out]; rfl, B1.out⟩
  case neg =>
  by_cases hl : (ks.length : Int) < lo
  case pos =>
    have H := hid (show rightN (.mk k o n s ns ks p) 2 = false by rw [HR.out, decide_eq_false (show ¬ lo ≤ ks.length by omega)]; simp)
    clear HR
    go_wp2_with fail
    go_ret
    exact ⟨by rw [H.out]; rfl, B1.out⟩
  case neg =>
  by_cases hm : hi < (ks.length : Int)
  case pos =>
    have H := hid (show rightN (.mk k o n s ns ks p) 2 = false by rw [HR.out, decide_eq_false (show ¬ (ks.length : Int) ≤ hi by omega)]; simp)
    clear HR
    go_wp2_with fail
    go_ret
    exact ⟨by rw [H.out]; rfl, B1.out⟩
  case neg =>
  replace HR := hid (HR.out.trans (by rw [decide_eq_true (show 0 ≤ lo by omega), decide_eq_true (show lo ≤ ks.length by omega), decide_eq_true (show (ks.length : Int) ≤ hi by omega), Bool.true_and, Bool.true_and, Bool.and_true]))
  go_wp2_with fail
  refine (fields_calls k o n s ns a1 q1 a2 ks.length q2 p B _ (by have := B1.out.size; omega) S2 (by omega)).mono ?_
  rintro e w2 ⟨rfl, b2⟩
  have B2 := hid (below_in B1.out (Nat.le_refl _) b2)
  have X2 := hid (box_on X1.out b2)
  clear b2 B1 X1 S2 c0 c1 c2 c3 c4 c5 c6
  generalize fieldsB k o n s ns = fb at *
  cases fb
  · have H := hid (HR.out.trans (Bool.false_and _))
    clear HR
    go_wp2_with fail
    go_ret
    exact ⟨by rw [H.out]; rfl, B2.out⟩
  replace HR := hid (HR.out.trans (Bool.true_and _))
  go_wp2_with fail
  go_loopw [8] (fun i wr => ∃ j : Nat, j ≤ ks.length ∧ i = .int .i64 j ∧ (∀ (q : Nat) (hq : q < ks.length), q < j → rightN ks[q] (wantK k (0 + q)) = true) ∧ Below w.heap.size w wr ∧ Box w.heap.size k o n s (.slice a1 ns.length q1) (.slice a2 ks.length q2) p wr) (fun i _ => ks.length - (intOf i).toNat)
  case atStart => exact ⟨0, Nat.zero_le _, rfl, fun q _ h => absurd h (Nat.not_lt_zero _), B2.out, X2.out⟩
  case round =>
    clear B2 X2 h0 hl hm
    obtain ⟨j, hj, rfl, hq, hb, hx⟩ := hrel
    have BB := hid hb
    have c0 := (box_cells hx).1
    have c5 := (box_cells hx).2.2.2.2.2.1
    by_cases hjl : j < ks.length
    · obtain ⟨b, off, rfl, hbB, hat⟩ := K1.out.resolve_left (fun h => by rw [h] at hjl; cases hjl)
      obtain ⟨nv1, kv1, hnode, hin⟩ := ndsAt_get hat j hjl
      have hb' := hb.mono hB
      have C1 := nodeAt_on hnode hbB hb'
      have hin2 := ndIn_on hb' _ _ _ hin
      have ih := IH.out ks[j] (List.getElem_mem hjl)
      have hs1 := hsk ks[j] (List.getElem_mem hjl)
      have hcm := count_mem (List.getElem_mem hjl)
      have HN := hid (fun hn => rightL_not ks k 0 j hjl hn)
      have HQ := hid (fun (he : rightN ks[j] (wantK k (0 + j)) = true) => show ∀ (q : Nat) (hq : q < ks.length), q < j + 1 → rightN ks[q] (wantK k (0 + q)) = true from fun q h1 h3 => by
        rcases Nat.lt_or_ge q j with h4 | h4
        · exact hq q h1 h4
        · obtain rfl : q = j := by omega
          exact he)
      generalize ks[j] = x at *
      have N1 := hid hin2
      have HS := hid hs1
      have hsz := hb.size
      have hbw : b < wr.heap.size := by omega
      obtain ⟨b1, r1, b2, r2, rfl, rfl⟩ := ndIn_shape hin
      have IH' := hid ih
      have PP : Hid ((Below w.heap.size w wr ∧ b < wr.heap.size ∧ Box w.heap.size k o n s (.slice a1 ns.length q1) (.slice (some ⟨b, off, none⟩) ks.length q2) p wr) ∧ wr.cell? ⟨w.heap.size, 0, none⟩ = some (.int .i64 k) ∧ wr.cell? ⟨w.heap.size, 5, none⟩ = some (.slice (some ⟨b, off, none⟩) ks.length q2) ∧ wr.cell? ⟨b, off + j * 7, none⟩ = some (.int .i64 x.kind) ∧ wr.cell? ⟨b, off + j * 7 + 1, none⟩ = some (.int .i64 x.op) ∧ wr.cell? ⟨b, off + j * 7 + 2, none⟩ = some (.int .i64 x.num) ∧ wr.cell? ⟨b, off + j * 7 + 3, none⟩ = some (.string x.str) ∧ wr.cell? ⟨b, off + j * 7 + 4, none⟩ = some (.slice b1 x.names.length r1) ∧ wr.cell? ⟨b, off + j * 7 + 5, none⟩ = some (.slice b2 x.kids.length r2) ∧ wr.cell? ⟨b, off + j * 7 + 6, none⟩ = some (.int .i64 x.pl)) := ⟨⟨hb, hbw, hx⟩, c0, c5, C1.1, C1.2.1, C1.2.2.1, C1.2.2.2.1, C1.2.2.2.2.1, C1.2.2.2.2.2.1, C1.2.2.2.2.2.2⟩
      clear hin hin2 hnode hat hb hb' ih K1 IH hq hs1 hsk hx C1
      by_cases hj0 : 0 < j
      · have HW := hid (show wantK k (0 + j) = 1 by have hk := HK.out; unfold wantK; grind)
        obtain ⟨e0, e1, e2, e3, e4, e5, e6⟩ := PP.out.2.2.2
        go_wp2_with fail
        refine (IH'.out 1 B _ _ _ (by decide) (by decide) (by show B ≤ _; omega) (hid N1.out) HS.out (by omega)).mono ?_
        rintro e w3 ⟨rfl, b3⟩
        have Z := hid (kid_on PP.out b3)
        clear b3 PP BB N1 c0 c5
        rw [HW.out] at HN HQ
        generalize rightN x 1 = sb at *
        cases sb
        · have H := hid (HR.out.trans (HN.out rfl))
          clear HN HQ
          go_wp2_with fail
          go_ret
          exact ⟨by rw [H.out]; rfl, Z.out.1.1⟩
        · have H := hid (HQ.out rfl)
          clear HN HQ
          obtain ⟨d0, d5, _⟩ := Z.out.2
          go_wp2_with fail
          go_roundw
          case rel => exact ⟨j + 1, by omega, by go_num, H.out, Z.out.1.1, Z.out.1.2.2⟩
          case measure => simp [intOf]; omega
      · have HW := hid (show wantK k (0 + j) = 1 by have hk := HK.out; unfold wantK; grind)
        obtain ⟨e0, e1, e2, e3, e4, e5, e6⟩ := PP.out.2.2.2
        go_wp2_with fail
        refine (IH'.out 1 B _ _ _ (by decide) (by decide) (by show B ≤ _; omega) (hid N1.out) HS.out (by omega)).mono ?_
        rintro e w3 ⟨rfl, b3⟩
        have Z := hid (kid_on PP.out b3)
        clear b3 PP BB N1 c0 c5
        rw [HW.out] at HN HQ
        generalize rightN x 1 = sb at *
        cases sb
        · have H := hid (HR.out.trans (HN.out rfl))
          clear HN HQ
          go_wp2_with fail
          go_ret
          exact ⟨by rw [H.out]; rfl, Z.out.1.1⟩
        · have H := hid (HQ.out rfl)
          clear HN HQ
          obtain ⟨d0, d5, _⟩ := Z.out.2
          go_wp2_with fail
          go_roundw
          case rel => exact ⟨j + 1, by omega, by go_num, H.out, Z.out.1.1, Z.out.1.2.2⟩
          case measure => simp [intOf]; omega
    · have H := hid (HR.out.trans (rightL_yes ks k 0 (fun q h1 => hq q h1 (by omega))))
      clear hq hb hx
      go_wp2_with fail
      go_ret
      exact ⟨by rw [H.out]; rfl, BB.out⟩

set_option maxHeartbeats 6400000 in
set_option maxRecDepth 100000 in
theorem rright_low (k : Int) (o n : Int) (s : ByteArray) (ns : List ByteArray) (ks : List Nd) (p : Int) (hk : k < 1 ∧ k ≠ 29) (ih : ∀ x ∈ ks, RRightAt x) : RRightAt (.mk k o n s ns ks p) := by
  intro a B w nv kv ha1 ha3 hB h1 hsm hc
  obtain ⟨_, hns, _, hsk⟩ := small_mk hsm
  simp only [countN] at hc
  obtain ⟨hs1, hk1⟩ := ndIn_mk.1 h1.out
  obtain ⟨a1, q1, rfl, _⟩ := strsIn_cases hs1
  obtain ⟨a2, q2, rfl, hkk1⟩ := kidsIn_cases hk1
  have hlen := length_count ks
  simp only [Nd.kind, Nd.op, Nd.num, Nd.str, Nd.pl]
  have hal := box1_below w (.cells #[.int .i64 k, .int .i64 o, .int .i64 n, .string s, .slice a1 ns.length q1, .slice a2 ks.length q2, .int .i64 p] 25)
  have AL := hid hal
  have BX := hid (box_new w k o n s (.slice a1 ns.length q1) (.slice a2 ks.length q2) p)
  have S1 := hid (strsIn_on hs1 (hal.mono hB))
  have K1 := hid hkk1
  have IH := hid ih
  have HIS := hid (show isK k = 0 by have hk := ‹_ ∧ _›; unfold isK; grind)
  have HR := hid (show rightN (.mk k o n s ns ks p) a = ((0 == a) && ((fieldsB k o n s ns && (decide (0 ≤ (manyT k o ns.length).1) && (decide ((manyT k o ns.length).1 ≤ ks.length) && decide ((ks.length : Int) ≤ (manyT k o ns.length).2)))) && rightL ks k 0)) by
    rw [rightN_mk, HIS.out, ok_fields, cnt_many])
  clear ih hs1 hk1 h1 hal hsm hkk1 HIS
  have d1 : decide (1 ≤ k) = false := decide_eq_false (by omega)
  have d3 : decide (21 ≤ k) = false := decide_eq_false (by omega)
  have e29k : (k == 29) = false := beq_eq_false_iff_ne.2 (by omega)
  go_enter Tryd.func34, Tryd.ntmps34
  go_wp2_with fail
  refine (many_calls k o n s a1 ns.length q1 a2 ks.length q2 p _).mono ?_
  rintro e w1 ⟨rfl, b1⟩
  have B1 := hid (below_in AL.out (by simp) b1)
  have X1 := hid (box_on BX.out b1)
  have S2 := hid (strsIn_on S1.out (b1.mono (by simp; omega)))
  obtain ⟨c0, c1, c2, c3, c4, c5, c6⟩ := box_cells X1.out
  clear b1 AL BX S1
  generalize (manyT k o ns.length).1 = lo at *
  generalize (manyT k o ns.length).2 = hi at *
  by_cases hia : a = 0
  case neg =>
    have di : ((0 : Int) != (a : Int)) = true := by rw [bne_iff_ne]; omega
    have H := hid (show rightN (.mk k o n s ns ks p) a = false by rw [HR.out, beq_eq_false_iff_ne.2 (show 0 ≠ a by omega)]; rfl)
    clear hia HR
    go_wp2_with fail
    go_ret
    exact ⟨by rw [H.out]; rfl, B1.out⟩
  case pos =>
  omega

set_option maxHeartbeats 6400000 in
set_option maxRecDepth 100000 in
theorem rright_mid (k : Int) (o n : Int) (s : ByteArray) (ns : List ByteArray) (ks : List Nd) (p : Int) (hk : 17 < k ∧ k < 21 ∧ k ≠ 29) (ih : ∀ x ∈ ks, RRightAt x) : RRightAt (.mk k o n s ns ks p) := by
  intro a B w nv kv ha1 ha3 hB h1 hsm hc
  obtain ⟨_, hns, _, hsk⟩ := small_mk hsm
  simp only [countN] at hc
  obtain ⟨hs1, hk1⟩ := ndIn_mk.1 h1.out
  obtain ⟨a1, q1, rfl, _⟩ := strsIn_cases hs1
  obtain ⟨a2, q2, rfl, hkk1⟩ := kidsIn_cases hk1
  have hlen := length_count ks
  simp only [Nd.kind, Nd.op, Nd.num, Nd.str, Nd.pl]
  have hal := box1_below w (.cells #[.int .i64 k, .int .i64 o, .int .i64 n, .string s, .slice a1 ns.length q1, .slice a2 ks.length q2, .int .i64 p] 25)
  have AL := hid hal
  have BX := hid (box_new w k o n s (.slice a1 ns.length q1) (.slice a2 ks.length q2) p)
  have S1 := hid (strsIn_on hs1 (hal.mono hB))
  have K1 := hid hkk1
  have IH := hid ih
  have HIS := hid (show isK k = 0 by have hk := ‹_ ∧ _›; unfold isK; grind)
  have HR := hid (show rightN (.mk k o n s ns ks p) a = ((0 == a) && ((fieldsB k o n s ns && (decide (0 ≤ (manyT k o ns.length).1) && (decide ((manyT k o ns.length).1 ≤ ks.length) && decide ((ks.length : Int) ≤ (manyT k o ns.length).2)))) && rightL ks k 0)) by
    rw [rightN_mk, HIS.out, ok_fields, cnt_many])
  clear ih hs1 hk1 h1 hal hsm hkk1 HIS
  have d1 : decide (1 ≤ k) = true := decide_eq_true (by omega)
  have d2 : decide (k ≤ 17) = false := decide_eq_false (by omega)
  have d3 : decide (21 ≤ k) = false := decide_eq_false (by omega)
  have e29k : (k == 29) = false := beq_eq_false_iff_ne.2 (by omega)
  go_enter Tryd.func34, Tryd.ntmps34
  go_wp2_with fail
  refine (many_calls k o n s a1 ns.length q1 a2 ks.length q2 p _).mono ?_
  rintro e w1 ⟨rfl, b1⟩
  have B1 := hid (below_in AL.out (by simp) b1)
  have X1 := hid (box_on BX.out b1)
  have S2 := hid (strsIn_on S1.out (b1.mono (by simp; omega)))
  obtain ⟨c0, c1, c2, c3, c4, c5, c6⟩ := box_cells X1.out
  clear b1 AL BX S1
  generalize (manyT k o ns.length).1 = lo at *
  generalize (manyT k o ns.length).2 = hi at *
  by_cases hia : a = 0
  case neg =>
    have di : ((0 : Int) != (a : Int)) = true := by rw [bne_iff_ne]; omega
    have H := hid (show rightN (.mk k o n s ns ks p) a = false by rw [HR.out, beq_eq_false_iff_ne.2 (show 0 ≠ a by omega)]; rfl)
    clear hia HR
    go_wp2_with fail
    go_ret
    exact ⟨by rw [H.out]; rfl, B1.out⟩
  case pos =>
  omega

set_option maxHeartbeats 6400000 in
set_option maxRecDepth 100000 in
theorem rright_big (k : Int) (o n : Int) (s : ByteArray) (ns : List ByteArray) (ks : List Nd) (p : Int) (hk : 32 < k ∧ k ≠ 29) (ih : ∀ x ∈ ks, RRightAt x) : RRightAt (.mk k o n s ns ks p) := by
  intro a B w nv kv ha1 ha3 hB h1 hsm hc
  obtain ⟨_, hns, _, hsk⟩ := small_mk hsm
  simp only [countN] at hc
  obtain ⟨hs1, hk1⟩ := ndIn_mk.1 h1.out
  obtain ⟨a1, q1, rfl, _⟩ := strsIn_cases hs1
  obtain ⟨a2, q2, rfl, hkk1⟩ := kidsIn_cases hk1
  have hlen := length_count ks
  simp only [Nd.kind, Nd.op, Nd.num, Nd.str, Nd.pl]
  have hal := box1_below w (.cells #[.int .i64 k, .int .i64 o, .int .i64 n, .string s, .slice a1 ns.length q1, .slice a2 ks.length q2, .int .i64 p] 25)
  have AL := hid hal
  have BX := hid (box_new w k o n s (.slice a1 ns.length q1) (.slice a2 ks.length q2) p)
  have S1 := hid (strsIn_on hs1 (hal.mono hB))
  have K1 := hid hkk1
  have IH := hid ih
  have HIS := hid (show isK k = 0 by have hk := ‹_ ∧ _›; unfold isK; grind)
  have HR := hid (show rightN (.mk k o n s ns ks p) a = ((0 == a) && ((fieldsB k o n s ns && (decide (0 ≤ (manyT k o ns.length).1) && (decide ((manyT k o ns.length).1 ≤ ks.length) && decide ((ks.length : Int) ≤ (manyT k o ns.length).2)))) && rightL ks k 0)) by
    rw [rightN_mk, HIS.out, ok_fields, cnt_many])
  clear ih hs1 hk1 h1 hal hsm hkk1 HIS
  have d1 : decide (1 ≤ k) = true := decide_eq_true (by omega)
  have d2 : decide (k ≤ 17) = false := decide_eq_false (by omega)
  have d3 : decide (21 ≤ k) = true := decide_eq_true (by omega)
  have d4 : decide (k ≤ 32) = false := decide_eq_false (by omega)
  have e29k : (k == 29) = false := beq_eq_false_iff_ne.2 (by omega)
  go_enter Tryd.func34, Tryd.ntmps34
  go_wp2_with fail
  refine (many_calls k o n s a1 ns.length q1 a2 ks.length q2 p _).mono ?_
  rintro e w1 ⟨rfl, b1⟩
  have B1 := hid (below_in AL.out (by simp) b1)
  have X1 := hid (box_on BX.out b1)
  have S2 := hid (strsIn_on S1.out (b1.mono (by simp; omega)))
  obtain ⟨c0, c1, c2, c3, c4, c5, c6⟩ := box_cells X1.out
  clear b1 AL BX S1
  generalize (manyT k o ns.length).1 = lo at *
  generalize (manyT k o ns.length).2 = hi at *
  by_cases hia : a = 0
  case neg =>
    have di : ((0 : Int) != (a : Int)) = true := by rw [bne_iff_ne]; omega
    have H := hid (show rightN (.mk k o n s ns ks p) a = false by rw [HR.out, beq_eq_false_iff_ne.2 (show 0 ≠ a by omega)]; rfl)
    clear hia HR
    go_wp2_with fail
    go_ret
    exact ⟨by rw [H.out]; rfl, B1.out⟩
  case pos =>
  omega

theorem rright_calls (x : Nd) : RRightAt x := by
  refine Nd.ind ?_ x
  clear x
  intro k o n s ns ks p ih
  by_cases h8 : k = 8
  · subst h8; exact rright_8 o n s ns ks p ih
  by_cases h29 : k = 29
  · subst h29; exact rright_29 o n s ns ks p ih
  by_cases h28 : k = 28
  · subst h28; exact rright_28 o n s ns ks p ih
  by_cases h30 : k = 30
  · subst h30; exact rright_30 o n s ns ks p ih
  by_cases hl : k < 1
  · exact rright_low k o n s ns ks p ⟨hl, h29⟩ ih
  by_cases hx : k ≤ 17
  · exact rright_expr k o n s ns ks p ⟨by omega, hx, h8⟩ ih
  by_cases hm : k < 21
  · exact rright_mid k o n s ns ks p ⟨by omega, hm, h29⟩ ih
  by_cases hs : k ≤ 32
  · exact rright_stmt k o n s ns ks p ⟨by omega, hs, h28, h29, h30⟩ ih
  exact rright_big k o n s ns ks p ⟨by omega, h29⟩ ih

set_option maxHeartbeats 1600000 in
theorem refcheck_tree (x : Nd) (B : Nat) (w : World) (nv kv : Value) (hB : B ≤ w.heap.size) (hN : Hid (NdIn B w x nv kv)) (hs : smallN x = true) (hc : countN x ≤ 1000000) :
    Calls Tryd.prog 18 #[.agg #[.int .i64 x.kind, .int .i64 x.op, .int .i64 x.num, .string x.str, nv, kv, .int .i64 x.pl]] w fun e w' =>
      e = .returned (.int .i64 (checkN x)) ∧ Below w.heap.size w w' := by
  obtain ⟨a1, q1, a2, q2, rfl, rfl⟩ := ndIn_shape hN.out
  have hal := (Below.refl w.heap.size w).alloc (Nat.le_refl _) (.cells #[.int .i64 x.kind, .int .i64 x.op, .int .i64 x.num, .string x.str, .slice a1 x.names.length q1, .slice a2 x.kids.length q2, .int .i64 x.pl] 25)
  have AL := hid hal
  have N := hid (ndIn_on (hal.mono hB) _ _ _ hN.out)
  have X := hid (box_new w x.kind x.op x.num x.str (.slice a1 x.names.length q1) (.slice a2 x.kids.length q2) x.pl)
  have HS := hid hs
  have hhc := high_le_count x
  have H := hid (show checkN x = if 12 < highN x then 13 else if rightN x 3 then 0 else 2 from rfl)
  clear hal hN hs
  go_enter Tryd.func18, Tryd.ntmps18
  go_wp2_with fail
  refine (refheight_calls x B _ _ _ (by simp; omega) N hc).mono ?_
  rintro e w1 ⟨rfl, b1⟩
  have B1 := hid (below_in AL.out (by simp) b1)
  have bq : Below B _ w1 := b1.mono (by simp; omega)
  have N1 := hid (ndIn_on bq _ _ _ N.out)
  obtain ⟨c0, c1, c2, c3, c4, c5, c6⟩ := box_cells (box_on X.out b1)
  clear b1 bq N X AL
  by_cases hh : 12 < highN x
  · have H1 := hid (H.out.trans (if_pos hh))
    clear H
    go_wp2_with fail
    go_ret
    exact ⟨by rw [H1.out]; rfl, B1.out⟩
  · have H1 := hid (H.out.trans (if_neg hh))
    clear H
    go_wp2_with fail
    refine (rright_calls x 3 B _ _ _ (by decide) (by decide) (by have := B1.out.size; omega) N1 HS.out hc).mono ?_
    rintro e w2 ⟨rfl, b2⟩
    have B2 := hid (below_in B1.out (Nat.le_refl _) b2)
    clear b2 B1 N1
    generalize rightN x 3 = rb at *
    cases rb
    · have H2 := hid (H1.out.trans (if_neg (by simp)))
      clear H1
      go_wp2_with fail
      go_ret
      exact ⟨by rw [H2.out]; rfl, B2.out⟩
    · have H2 := hid (H1.out.trans (if_pos rfl))
      clear H1
      go_wp2_with fail
      go_ret
      exact ⟨by rw [H2.out]; rfl, B2.out⟩

end Go.Proofs.YtenpldenhgpneaaDoor
