/- The document's way of writing: ranks, brackets, lists, blocks. -/
import Derived.Test.YtlnllpehifkjhaaDoorRefSigns
import Derived.Test.YtlnllpehifkjhaaDoorJoint9
import Derived.Test.YtlnllpehifkjhaaDoorJoint5
namespace Go.Proofs.YtlnllpehifkjhaaDoor
open Go.RowKit

set_option maxHeartbeats 3200000 in
theorem rrank_calls (k o n : Int) (s : ByteArray) (a1 : Option Addr) (c1 q1 : Nat) (a2 : Option Addr) (c2 q2 : Nat) (p : Int) (w : World) (ho : k = 10 → 1 ≤ o ∧ o ≤ 11) :
    Calls Tryd.prog 52 #[.agg #[.int .i64 k, .int .i64 o, .int .i64 n, .string s, .slice a1 c1 q1, .slice a2 c2 q2, .int .i64 p]] w fun e w' =>
      e = .returned (.int .i64 (rankT k o)) ∧ Below w.heap.size w w' := by
  have AL := hid (box1_below w (.cells #[.int .i64 k, .int .i64 o, .int .i64 n, .string s, .slice a1 c1 q1, .slice a2 c2 q2, .int .i64 p] 25))
  rcases (show k = 12 ∨ k = 11 ∨ k = 9 ∨ k = 10 ∨ (k ≠ 9 ∧ k ≠ 10 ∧ k ≠ 11 ∧ k ≠ 12) by omega) with rfl | rfl | rfl | rfl | ⟨h9, h10, h11, h12⟩
  case inr.inr.inr.inl =>
    obtain ⟨o1, o2⟩ := ho rfl
    obtain rfl | rfl | rfl | rfl | rfl | rfl | rfl | rfl | rfl | rfl | rfl : o = 1 ∨ o = 2 ∨ o = 3 ∨ o = 4 ∨ o = 5 ∨ o = 6 ∨ o = 7 ∨ o = 8 ∨ o = 9 ∨ o = 10 ∨ o = 11 := by omega
    all_goals
      clear ho o1 o2
      go_enter Tryd.func52, Tryd.ntmps52
      go_wp2_with fail
      go_ret
      exact ⟨rfl, AL.out⟩
  case inr.inr.inr.inr =>
    have e9 : (k == 9) = false := beq_eq_false_iff_ne.2 h9
    have e10 : (k == 10) = false := beq_eq_false_iff_ne.2 h10
    have e11 : (k == 11) = false := beq_eq_false_iff_ne.2 h11
    have e12 : (k == 12) = false := beq_eq_false_iff_ne.2 h12
    clear ho
    by_cases h1 : k < 1
    · have H := hid (show rankT k o = 0 by unfold rankT; grind)
      clear h9 h10 h11 h12
      go_enter Tryd.func52, Tryd.ntmps52
      go_wp2_with fail
      go_ret
      exact ⟨by rw [H.out]; rfl, AL.out⟩
    by_cases h2 : 20 < k
    · have H := hid (show rankT k o = 0 by unfold rankT; grind)
      clear h9 h10 h11 h12
      go_enter Tryd.func52, Tryd.ntmps52
      go_wp2_with fail
      go_ret
      exact ⟨by rw [H.out]; rfl, AL.out⟩
    by_cases h3 : k < 13
    · have H := hid (show rankT k o = 9 by unfold rankT; grind)
      clear h9 h10 h11 h12
      go_enter Tryd.func52, Tryd.ntmps52
      go_wp2_with fail
      go_ret
      exact ⟨by rw [H.out]; rfl, AL.out⟩
    by_cases h4 : 16 < k
    · have H := hid (show rankT k o = 9 by unfold rankT; grind)
      clear h9 h10 h11 h12
      go_enter Tryd.func52, Tryd.ntmps52
      go_wp2_with fail
      go_ret
      exact ⟨by rw [H.out]; rfl, AL.out⟩
    · have H := hid (show rankT k o = 8 by unfold rankT; grind)
      clear h9 h10 h11 h12
      go_enter Tryd.func52, Tryd.ntmps52
      go_wp2_with fail
      go_ret
      exact ⟨by rw [H.out]; rfl, AL.out⟩
  all_goals
    clear ho
    go_enter Tryd.func52, Tryd.ntmps52
    go_wp2_with fail
    go_ret
    exact ⟨rfl, AL.out⟩

/-- what is known of the document's Expr and Stmt at a node -/
def RExprAt (x : Nd) : Prop := ∀ (B : Nat) (w : World) (nv kv : Value), B ≤ w.heap.size → Hid (NdIn B w x nv kv) →
    Calls Tryd.prog 53 #[.agg #[.int .i64 x.kind, .int .i64 x.op, .int .i64 x.num, .string x.str, nv, kv, .int .i64 x.pl]] w fun e w' =>
      e = .returned (.string ⟨(textN x).e.toArray⟩) ∧ Below w.heap.size w w'
def RStmtAt (x : Nd) : Prop := ∀ (B : Nat) (w : World) (nv kv : Value), B ≤ w.heap.size → Hid (NdIn B w x nv kv) →
    Calls Tryd.prog 38 #[.agg #[.int .i64 x.kind, .int .i64 x.op, .int .i64 x.num, .string x.str, nv, kv, .int .i64 x.pl]] w fun e w' =>
      e = .returned (.string ⟨(textN x).s.toArray⟩) ∧ Below w.heap.size w w'

def brT (b : Bool) (l : List UInt8) : List UInt8 := if b then 40 :: (l ++ [41]) else l
theorem tight_in (x : Tx) (r : Int) : tightT x r = brT (decide (x.rank < r)) x.e := by
  unfold tightT brT
  by_cases h : r ≤ x.rank
  · rw [if_pos h, decide_eq_false (by omega)]; rfl
  · rw [if_neg h, decide_eq_true (by omega)]; rfl

set_option maxHeartbeats 3200000 in
theorem rat_calls (x : Nd) (hE : RExprAt x) (b : Bool) (hl : (textN x).e.length ≤ 100000000) (B : Nat) (w : World) (nv kv : Value) (hB : B ≤ w.heap.size) (hN : Hid (NdIn B w x nv kv)) :
    Calls Tryd.prog 54 #[.agg #[.int .i64 x.kind, .int .i64 x.op, .int .i64 x.num, .string x.str, nv, kv, .int .i64 x.pl], .bool b] w fun e w' =>
      e = .returned (.string ⟨(brT b (textN x).e).toArray⟩) ∧ Below w.heap.size w w' := by
  obtain ⟨a1, q1, a2, q2, rfl, rfl⟩ := ndIn_shape hN.out
  have hal := box1_below w (.cells #[.int .i64 x.kind, .int .i64 x.op, .int .i64 x.num, .string x.str, .slice a1 x.names.length q1, .slice a2 x.kids.length q2, .int .i64 x.pl] 25)
  have AL := hid hal
  have N := hid (ndIn_on (hal.mono hB) _ _ _ hN.out)
  have E := hid hE
  have HT := hid (show (⟨(brT true (textN x).e).toArray⟩ : ByteArray) = ⟨#[40]⟩ ++ ⟨(textN x).e.toArray⟩ ++ ⟨#[41]⟩ by apply ByteArray.ext; simp [brT])
  clear hal hN hE
  cases b
  · go_enter Tryd.func54, Tryd.ntmps54
    go_wp2_with fail
    refine (E.out B _ _ _ (by simp; omega) N).mono ?_
    rintro e w1 ⟨rfl, b1⟩
    have B1 := hid (below_in AL.out (by simp) b1)
    clear b1 AL N E
    go_wp2_with fail
    go_ret
    exact ⟨rfl, B1.out⟩
  · go_enter Tryd.func54, Tryd.ntmps54
    go_wp2_with fail
    refine (E.out B _ _ _ (by simp; omega) N).mono ?_
    rintro e w1 ⟨rfl, b1⟩
    have B1 := hid (below_in AL.out (by simp) b1)
    clear b1 AL N E
    go_wp2_with fail
    go_ret
    exact ⟨by rw [HT.out]; rfl, B1.out⟩

theorem sum4_take : ∀ (l : List Tx) (j : Nat), sum4 (l.take j) ≤ sum4 l
  | [], j => by simp
  | x :: r, 0 => by simp [sum4]
  | x :: r, j + 1 => by rw [List.take_succ_cons, sum4_cons, sum4_cons]; have := sum4_take r j; omega
theorem sum4_mem {x : Tx} : ∀ {l : List Tx}, x ∈ l → mx x ≤ sum4 l
  | y :: r, h => by
    rw [sum4_cons]
    rcases List.mem_cons.1 h with rfl | h
    · omega
    · have := sum4_mem h; omega
theorem commas_snoc (l : List Tx) (x : Tx) : commasT (l ++ [x]) = commasT l ++ (44 :: 32 :: x.e) := by simp [commasT]
theorem list_snoc {l : List Tx} (h : l ≠ []) (x : Tx) : listT (l ++ [x]) = listT l ++ ([44, 32] ++ x.e) := by
  cases l with
  | nil => exact absurd rfl h
  | cons y r => simp [listT, commas_snoc]
theorem blanks_snoc (l : List Tx) (x : Tx) : blanksT (l ++ [x]) = blanksT l ++ ([32] ++ x.s) := by simp [blanksT]
theorem program_snoc {l : List Tx} (h : l ≠ []) (x : Tx) : programT (l ++ [x]) = programT l ++ ([32] ++ x.s) := by
  cases l with
  | nil => exact absurd rfl h
  | cons y r => simp [programT, blanks_snoc]
theorem map_take_one (ks : List Nd) (j : Nat) (hj : j < ks.length) : (ks.take (j + 1)).map textN = (ks.take j).map textN ++ [textN ks[j]] := by
  rw [List.take_succ_eq_append_getElem hj, List.map_append]; rfl

set_option maxHeartbeats 3200000 in
theorem rlist_calls (ks : List Nd) (hE : ∀ x ∈ ks, RExprAt x) (hlen : sum4 (ks.map textN) ≤ 100000000) (hks : ks.length ≤ 1000000) (B : Nat) (w : World) (kv : Value) (hB : B ≤ w.heap.size) (hK : Hid (KidsIn B w kv ks)) :
    Calls Tryd.prog 70 #[kv] w fun e w' => e = .returned (.string ⟨(listT (ks.map textN)).toArray⟩) ∧ Below w.heap.size w w' := by
  obtain ⟨ao, cap, rfl, hkk⟩ := kidsIn_cases hK.out
  have KS := hid hkk
  have IH := hid hE
  clear hE hK hkk
  go_enter Tryd.func70, Tryd.ntmps70
  go_wp2_with fail
  go_loopw [3, 4] (fun s i wr => ∃ j : Nat, j ≤ ks.length ∧ i = .int .i64 j ∧ s = .string ⟨(listT ((ks.take j).map textN)).toArray⟩ ∧ Below w.heap.size w wr) (fun _ i _ => ks.length - (intOf i).toNat)
  case atStart => exact ⟨0, Nat.zero_le _, rfl, by simp [listT], Below.refl _ _⟩
  case round =>
    obtain ⟨j, hj, rfl, rfl, hb⟩ := hrel
    have hl1 : (listT ((ks.take j).map textN)).length ≤ 100000000 := by
      have h1 := list_len ((ks.take j).map textN)
      have h2 := sum4_take (ks.map textN) j
      rw [← List.map_take] at h2
      omega
    by_cases hjl : j < ks.length
    · obtain ⟨b, off, rfl, hbB, hat⟩ := KS.out.resolve_left (fun h => by rw [h] at hjl; cases hjl)
      obtain ⟨nv', kv', hnode, hin⟩ := ndsAt_get hat j hjl
      have hb' := hb.mono hB
      obtain ⟨c0, c1, c2, c3, c4, c5, c6⟩ := nodeAt_on hnode hbB hb'
      have hin' := ndIn_on hb' _ _ _ hin
      have ih := IH.out ks[j] (List.getElem_mem hjl)
      have hxl : (textN ks[j]).e.length ≤ 100000000 := by
        have h1 := sum4_mem (List.mem_map_of_mem (f := textN) (List.getElem_mem hjl))
        have h2 := mx_e (textN ks[j])
        omega
      have HT := hid (show listT ((ks.take (j + 1)).map textN) = if 0 < j then listT ((ks.take j).map textN) ++ ([44, 32] ++ (textN ks[j]).e) else (textN ks[j]).e by
        rw [map_take_one ks j hjl]
        by_cases h0 : 0 < j
        · rw [if_pos h0, list_snoc (by intro h; have := congrArg List.length h; rw [List.length_map, List.length_take] at this; simp only [List.length_nil] at this; omega)]
        · rw [if_neg h0, show (ks.take j).map textN = [] by rw [show j = 0 by omega, List.take_zero]; rfl]
          simp [listT, commasT])
      have HZ := hid (fun (h : ¬ 0 < j) => show listT ((ks.take j).map textN) = [] by rw [show j = 0 by omega, List.take_zero]; rfl)
      generalize ks[j] = x at *
      have N := hid hin'
      have BB := hid hb
      have hsz := hb.size
      obtain ⟨a1, q1, a2, q2, rfl, rfl⟩ := ndIn_shape hin
      have IH' := hid ih
      clear hin hin' hnode hat hb hb' ih KS IH
      by_cases h0 : 0 < j
      · have HT1 := hid (HT.out.trans (if_pos h0))
        clear HT HZ
        generalize listT ((ks.take j).map textN) = sf at *
        go_wp2_with fail
        refine (IH'.out B _ _ _ (by omega) (hid N.out)).mono ?_
        rintro e w1 ⟨rfl, b1⟩
        have B1 := hid (BB.out.trans (b1.mono hsz))
        clear b1 BB N
        generalize (textN x).e = xe at *
        go_wp2_with fail
        go_roundw
        case rel => exact ⟨j + 1, by omega, by go_num, by rw [HT1.out]; congr 1; apply ByteArray.ext; simp, B1.out⟩
        case measure => simp [intOf]; omega
      · have HT1 := hid (HT.out.trans (if_neg h0))
        have HZ1 := hid (HZ.out h0)
        clear HT HZ
        generalize listT ((ks.take j).map textN) = sf at *
        go_wp2_with fail
        refine (IH'.out B _ _ _ (by omega) (hid N.out)).mono ?_
        rintro e w1 ⟨rfl, b1⟩
        have B1 := hid (BB.out.trans (b1.mono hsz))
        clear b1 BB N
        generalize (textN x).e = xe at *
        go_wp2_with fail
        go_roundw
        case rel => exact ⟨j + 1, by omega, by go_num, by rw [HT1.out, HZ1.out]; congr 1, B1.out⟩
        case measure => simp [intOf]; omega
    · have e : ks.take j = ks := List.take_of_length_le (by omega)
      have BB := hid hb
      clear hb
      go_wp2_with fail
      go_ret
      exact ⟨by rw [e]; rfl, BB.out⟩

set_option maxHeartbeats 3200000 in
theorem rblock_calls (ks : List Nd) (hE : ∀ x ∈ ks, RStmtAt x) (hlen : sum4 (ks.map textN) ≤ 100000000) (hks : ks.length ≤ 1000000) (B : Nat) (w : World) (kv : Value) (hB : B ≤ w.heap.size) (hK : Hid (KidsIn B w kv ks)) :
    Calls Tryd.prog 55 #[kv] w fun e w' => e = .returned (.string ⟨(blockT (ks.map textN)).toArray⟩) ∧ Below w.heap.size w w' := by
  obtain ⟨ao, cap, rfl, hkk⟩ := kidsIn_cases hK.out
  cases ks with
  | nil =>
    have H := hid (show (⟨(blockT (([] : List Nd).map textN)).toArray⟩ : ByteArray) = ⟨#[123, 125]⟩ by rfl)
    clear hE hK hkk
    go_enter Tryd.func55, Tryd.ntmps55
    go_wp2_with fail
    go_ret
    exact ⟨by rw [H.out]; rfl, Below.refl _ _⟩
  | cons y r =>
  have H := hid (show blockT ((y :: r).map textN) = 123 :: (blanksT ((y :: r).map textN) ++ [32, 125]) by rfl)
  have hpos : 0 < (y :: r).length := by simp
  generalize y :: r = ks at *
  have ep : ((ks.length : Int) == 0) = false := beq_eq_false_iff_ne.2 (by omega)
  have KS := hid hkk
  have IH := hid hE
  clear hE hK hkk
  go_enter Tryd.func55, Tryd.ntmps55
  go_wp2_with fail
  go_loopw [3, 4] (fun s i wr => ∃ j : Nat, j ≤ ks.length ∧ i = .int .i64 j ∧ s = .string ⟨(123 :: blanksT ((ks.take j).map textN)).toArray⟩ ∧ Below w.heap.size w wr) (fun _ i _ => ks.length - (intOf i).toNat)
  case atStart => exact ⟨0, Nat.zero_le _, rfl, by simp [blanksT], Below.refl _ _⟩
  case round =>
    clear ep
    obtain ⟨j, hj, rfl, rfl, hb⟩ := hrel
    have hl1 : (123 :: blanksT ((ks.take j).map textN)).length ≤ 100000001 := by
      have h1 := blanks_len ((ks.take j).map textN)
      have h2 := sum4_take (ks.map textN) j
      rw [← List.map_take] at h2
      rw [List.length_cons]
      omega
    by_cases hjl : j < ks.length
    · obtain ⟨b, off, rfl, hbB, hat⟩ := KS.out.resolve_left (fun h => by rw [h] at hjl; cases hjl)
      obtain ⟨nv', kv', hnode, hin⟩ := ndsAt_get hat j hjl
      have hb' := hb.mono hB
      obtain ⟨c0, c1, c2, c3, c4, c5, c6⟩ := nodeAt_on hnode hbB hb'
      have hin' := ndIn_on hb' _ _ _ hin
      have ih := IH.out ks[j] (List.getElem_mem hjl)
      have hxl : (textN ks[j]).s.length ≤ 100000000 := by
        have h1 := sum4_mem (List.mem_map_of_mem (f := textN) (List.getElem_mem hjl))
        have h2 := mx_s (textN ks[j])
        omega
      have HT := hid (show 123 :: blanksT ((ks.take (j + 1)).map textN) = 123 :: blanksT ((ks.take j).map textN) ++ ([32] ++ (textN ks[j]).s) by
        rw [map_take_one ks j hjl, blanks_snoc]; rfl)
      generalize ks[j] = x at *
      have N := hid hin'
      have BB := hid hb
      have hsz := hb.size
      obtain ⟨a1, q1, a2, q2, rfl, rfl⟩ := ndIn_shape hin
      have IH' := hid ih
      clear hin hin' hnode hat hb hb' ih KS IH
      generalize 123 :: blanksT ((ks.take j).map textN) = sf at *
      go_wp2_with fail
      refine (IH'.out B _ _ _ (by omega) (hid N.out)).mono ?_
      rintro e w1 ⟨rfl, b1⟩
      have B1 := hid (BB.out.trans (b1.mono hsz))
      clear b1 BB N
      generalize (textN x).s = xe at *
      go_wp2_with fail
      go_roundw
      case rel => exact ⟨j + 1, by omega, by go_num, by rw [HT.out]; congr 1; apply ByteArray.ext; simp, B1.out⟩
      case measure => simp [intOf]; omega
    · have HZ := hid (show (⟨(blockT (ks.map textN)).toArray⟩ : ByteArray) = ⟨(123 :: blanksT ((ks.take j).map textN)).toArray⟩ ++ ⟨#[32, 125]⟩ by
        rw [H.out, List.take_of_length_le (show ks.length ≤ j by omega)]; apply ByteArray.ext; simp)
      have BB := hid hb
      clear hb
      generalize 123 :: blanksT ((ks.take j).map textN) = sf at *
      go_wp2_with fail
      go_ret
      exact ⟨by rw [HZ.out]; rfl, BB.out⟩

end Go.Proofs.YtlnllpehifkjhaaDoor
