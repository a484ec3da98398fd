/- A program's text as the document writes it. Whether a node's own fields are those of its kind, as the document asks it (what it says). Whether a node's own fields are those of its kind, as the document asks it (9, 17, 2). -/
import Derived.Test.YtlnllpehifkjhaaDoorRfText
import Derived.Test.YtlnllpehifkjhaaDoorRefSigns
namespace Go.Proofs.YtlnllpehifkjhaaDoor
open Go.RowKit

set_option maxHeartbeats 3200000 in
theorem rtext_calls (k o n : Int) (s : ByteArray) (ns : List ByteArray) (ks : List Nd) (p : Int) (hE : ∀ x ∈ ks, RStmtAt x) (hlen : sum4 (ks.map textN) ≤ 100000000) (hks : ks.length ≤ 1000000) (B : Nat) (w : World) (nv kv : Value) (hB : B ≤ w.heap.size) (hN : Hid (NdIn B w (.mk k o n s ns ks p) nv kv)) :
    Calls Tryd.prog 26 #[.agg #[.int .i64 k, .int .i64 o, .int .i64 n, .string s, nv, kv, .int .i64 p]] w fun e w' => e = .returned (.string ⟨(programT (ks.map textN)).toArray⟩) ∧ Below w.heap.size w w' := by
  obtain ⟨_, hk⟩ := ndIn_mk.1 hN.out
  obtain ⟨ao, cap, rfl, hkk⟩ := kidsIn_cases hk
  have KS := hid hkk
  have IH := hid hE
  clear hE hN hk hkk
  go_enter Tryd.func26, Tryd.ntmps26
  go_wp2_with fail
  go_loopw [3, 4] (fun t i wr => ∃ j : Nat, j ≤ ks.length ∧ i = .int .i64 j ∧ t = .string ⟨(programT ((ks.take j).map textN)).toArray⟩ ∧ Below w.heap.size w wr ∧ Box w.heap.size k o n s nv (.slice ao ks.length cap) p wr) (fun _ i _ => ks.length - (intOf i).toNat)
  case atStart => exact ⟨0, Nat.zero_le _, rfl, by simp [programT], (Below.refl _ _).alloc (Nat.le_refl _) _, box_new w k o n s nv _ p⟩
  case round =>
    obtain ⟨j, hj, rfl, rfl, hb, hx⟩ := hrel
    have d5 := (box_cells hx).2.2.2.2.2.1
    have hl1 : (programT ((ks.take j).map textN)).length ≤ 100000000 := by
      have h1 := program_len ((ks.take j).map textN)
      have h2 := sum4_take (ks.map textN) j
      rw [← List.map_take] at h2
      omega
    by_cases hjl : j < ks.length
    · obtain ⟨b, off, rfl, hbB, hat⟩ := KS.out.resolve_left (fun h => by rw [h] at hjl; cases hjl)
      obtain ⟨nv', kv', hnode, hin⟩ := ndsAt_get hat j hjl
      have hb' := hb.mono hB
      obtain ⟨c0, c1, c2, c3, c4, c5, c6⟩ := nodeAt_on hnode hbB hb'
      have hin' := ndIn_on hb' _ _ _ hin
      have ih := IH.out ks[j] (List.getElem_mem hjl)
      have hxl : (textN ks[j]).s.length ≤ 100000000 := by
        have h1 := sum4_mem (List.mem_map_of_mem (f := textN) (List.getElem_mem hjl))
        have h2 := mx_s (textN ks[j])
        omega
      have HT := hid (show programT ((ks.take (j + 1)).map textN) = if 0 < j then programT ((ks.take j).map textN) ++ ([32] ++ (textN ks[j]).s) else (textN ks[j]).s by
        rw [map_take_one ks j hjl]
        by_cases h0 : 0 < j
        · rw [if_pos h0, program_snoc (by intro h; have := congrArg List.length h; rw [List.length_map, List.length_take] at this; simp only [List.length_nil] at this; omega)]
        · rw [if_neg h0, show (ks.take j).map textN = [] by rw [show j = 0 by omega, List.take_zero]; rfl]
          simp [programT, blanksT])
      have HZ := hid (fun (h : ¬ 0 < j) => show programT ((ks.take j).map textN) = [] by rw [show j = 0 by omega, List.take_zero]; rfl)
      generalize ks[j] = x at *
      have N := hid hin'
      have BB := hid hb
      have HX := hid hx
      have hsz := hb.size
      obtain ⟨a1, q1, a2, q2, rfl, rfl⟩ := ndIn_shape hin
      have IH' := hid ih
      clear hin hin' hnode hat hb hb' ih KS IH hx
      by_cases h0 : 0 < j
      · have HT1 := hid (HT.out.trans (if_pos h0))
        clear HT HZ
        generalize programT ((ks.take j).map textN) = sf at *
        go_wp2_with fail
        refine (IH'.out B _ _ _ (by omega) (hid N.out)).mono ?_
        rintro e w1 ⟨rfl, b1⟩
        have B1 := hid (BB.out.trans (b1.mono hsz))
        have X1 := hid (box_on HX.out b1)
        clear b1 BB N HX d5
        generalize (textN x).s = xe at *
        go_wp2_with fail
        go_roundw
        case rel => exact ⟨j + 1, by omega, by go_num, by rw [HT1.out]; congr 1; apply ByteArray.ext; simp, B1.out, X1.out⟩
        case measure => simp [intOf]; omega
      · have HT1 := hid (HT.out.trans (if_neg h0))
        have HZ1 := hid (HZ.out h0)
        clear HT HZ
        generalize programT ((ks.take j).map textN) = sf at *
        go_wp2_with fail
        refine (IH'.out B _ _ _ (by omega) (hid N.out)).mono ?_
        rintro e w1 ⟨rfl, b1⟩
        have B1 := hid (BB.out.trans (b1.mono hsz))
        have X1 := hid (box_on HX.out b1)
        clear b1 BB N HX d5
        generalize (textN x).s = xe at *
        go_wp2_with fail
        go_roundw
        case rel => exact ⟨j + 1, by omega, by go_num, by rw [HT1.out, HZ1.out]; congr 1, B1.out, X1.out⟩
        case measure => simp [intOf]; omega
    · have e : ks.take j = ks := List.take_of_length_le (by omega)
      have BB := hid hb
      clear hb hx
      go_wp2_with fail
      go_ret
      exact ⟨by rw [e]; rfl, BB.out⟩

end Go.Proofs.YtlnllpehifkjhaaDoor

namespace Go.Proofs.YtlnllpehifkjhaaDoor
open Go.RowKit


def fieldsB (k o n : Int) (s : ByteArray) (ns : List ByteArray) : Bool := opOk k o && (numOk k n && (strOk k s && nsOk k ns))
theorem empty_size (s : ByteArray) : s.toList.isEmpty = decide (s.size = 0) := by
  rw [Lib.toList_data]
  have e : s.size = s.data.toList.length := by simp
  rw [e]
  cases s.data.toList <;> simp
theorem sign_none (o : Int) : (signT o = []) ↔ ¬(1 ≤ o ∧ o ≤ 11) := by
  by_cases h : 0 ≤ o ∧ o ≤ 11
  · obtain rfl | rfl | rfl | rfl | rfl | rfl | rfl | rfl | rfl | rfl | rfl | rfl : o = 0 ∨ o = 1 ∨ o = 2 ∨ o = 3 ∨ o = 4 ∨ o = 5 ∨ o = 6 ∨ o = 7 ∨ o = 8 ∨ o = 9 ∨ o = 10 ∨ o = 11 := by omega
    all_goals decide
  · refine ⟨fun _ => by omega, fun _ => ?_⟩
    unfold signT
    by_cases h0 : o < 0
    · rw [if_pos h0]
    · rw [if_neg h0, List.getD_eq_getElem?_getD, List.getElem?_eq_none (by simp [tsgnL]; omega)]; rfl

theorem all_false {α : Type} {P : α → Bool} {l : List α} {j : Nat} (hj : j < l.length) (h : P l[j] = false) : l.all P = false := by
  rw [List.all_eq_false]; exact ⟨_, List.getElem_mem hj, by simp [h]⟩
theorem all_true {α : Type} {P : α → Bool} {l : List α} (h : ∀ (q : Nat) (hq : q < l.length), P l[q] = true) : l.all P = true := by
  rw [List.all_eq_true]
  intro x hx
  obtain ⟨q, hq, rfl⟩ := List.getElem_of_mem hx
  exact h q hq

end Go.Proofs.YtlnllpehifkjhaaDoor

namespace Go.Proofs.YtlnllpehifkjhaaDoor
open Go.RowKit


set_option maxHeartbeats 6400000 in
set_option maxRecDepth 100000 in
theorem fields_9 (o n : Int) (s : ByteArray) (ns : List ByteArray) (a1 : Option Addr) (q1 : Nat) (a2 : Option Addr) (c2 q2 : Nat) (p : Int) (B : Nat) (w : World) (_hB : B ≤ w.heap.size) (_hS : Hid (StrsIn B (.slice a1 ns.length q1) ns w)) (hns : ns.length ≤ 1000000) :
    Calls Tryd.prog 34 #[.agg #[.int .i64 9, .int .i64 o, .int .i64 n, .string s, .slice a1 ns.length q1, .slice a2 c2 q2, .int .i64 p]] w fun e w' =>
      e = .returned (.bool (fieldsB 9 o n s ns)) ∧ Below w.heap.size w w' := by
  have AL := hid (box1_below w (.cells #[.int .i64 9, .int .i64 o, .int .i64 n, .string s, .slice a1 ns.length q1, .slice a2 c2 q2, .int .i64 p] 25))
  have X := hid (box_new w 9 o n s (.slice a1 ns.length q1) (.slice a2 c2 q2) p)
  have HE := hid (empty_size s)
  by_cases ho1 : o < 1
  · have H := hid (show fieldsB 9 o n s ns = false by have he := HE.out; simp only [fieldsB, opOk, numOk, strOk, nsOk, properB, propB]; grind [sign_none])
    clear HE
    go_enter Tryd.func34, Tryd.ntmps34
    go_wp2_with fail
    go_ret
    exact ⟨by rw [H.out]; rfl, AL.out⟩
  have do1 : decide (o < 1) = false := decide_eq_false ho1
  by_cases ho2 : 2 < o
  · have H := hid (show fieldsB 9 o n s ns = false by have he := HE.out; simp only [fieldsB, opOk, numOk, strOk, nsOk, properB, propB]; grind [sign_none])
    clear HE
    go_enter Tryd.func34, Tryd.ntmps34
    go_wp2_with fail
    go_ret
    exact ⟨by rw [H.out]; rfl, AL.out⟩
  have do2 : decide (2 < o) = false := decide_eq_false ho2
  by_cases hn : n = 0
  case neg =>
    have en : (n != 0) = true := bne_iff_ne.2 hn
    have H := hid (show fieldsB 9 o n s ns = false by have he := HE.out; simp only [fieldsB, opOk, numOk, strOk, nsOk, properB, propB]; grind)
    clear HE
    go_enter Tryd.func34, Tryd.ntmps34
    go_wp2_with fail
    go_ret
    exact ⟨by rw [H.out]; rfl, AL.out⟩
  case pos =>
  subst hn
  by_cases hse : s.size = 0
  case neg =>
    have es : s.toList.isEmpty = false := by rw [HE.out]; exact decide_eq_false hse
    have H := hid (show fieldsB 9 o 0 s ns = false by have he := HE.out; simp only [fieldsB, opOk, numOk, strOk, nsOk, properB, propB]; grind)
    clear HE
    go_enter Tryd.func34, Tryd.ntmps34
    go_wp2_with fail
    go_ret
    exact ⟨by rw [H.out]; rfl, AL.out⟩
  case pos =>
  have es : s.toList.isEmpty = true := by rw [HE.out]; exact decide_eq_true hse
  by_cases hl : ns.length = 0
  case neg =>
    have dl : decide ((0 : Int) < (ns.length : Int)) = true := decide_eq_true (by omega)
    have H := hid (show fieldsB 9 o 0 s ns = false by have he := HE.out; simp only [fieldsB, opOk, numOk, strOk, nsOk, properB, propB]; grind)
    clear HE
    go_enter Tryd.func34, Tryd.ntmps34
    go_wp2_with fail
    go_ret
    exact ⟨by rw [H.out]; rfl, AL.out⟩
  case pos =>
  have H := hid (show fieldsB 9 o 0 s ns = true by have he := HE.out; simp only [fieldsB, opOk, numOk, strOk, nsOk, properB, propB]; grind)
  clear HE
  go_enter Tryd.func34, Tryd.ntmps34
  go_wp2_with fail
  go_loop [5] (fun i => i = .int .i64 0) (fun _ => 0)
  case atStart => rfl
  case round =>
    obtain rfl := hrel
    go_wp2_with fail
    go_ret
    exact ⟨by rw [H.out]; rfl, (by first | exact AL.out | (have hz := AL.out; simpa only [hl] using hz))⟩

set_option maxHeartbeats 6400000 in
set_option maxRecDepth 100000 in
theorem fields_17 (o n : Int) (s : ByteArray) (ns : List ByteArray) (a1 : Option Addr) (q1 : Nat) (a2 : Option Addr) (c2 q2 : Nat) (p : Int) (B : Nat) (w : World) (_hB : B ≤ w.heap.size) (_hS : Hid (StrsIn B (.slice a1 ns.length q1) ns w)) (hns : ns.length ≤ 1000000) :
    Calls Tryd.prog 34 #[.agg #[.int .i64 17, .int .i64 o, .int .i64 n, .string s, .slice a1 ns.length q1, .slice a2 c2 q2, .int .i64 p]] w fun e w' =>
      e = .returned (.bool (fieldsB 17 o n s ns)) ∧ Below w.heap.size w w' := by
  have AL := hid (box1_below w (.cells #[.int .i64 17, .int .i64 o, .int .i64 n, .string s, .slice a1 ns.length q1, .slice a2 c2 q2, .int .i64 p] 25))
  have X := hid (box_new w 17 o n s (.slice a1 ns.length q1) (.slice a2 c2 q2) p)
  have HE := hid (empty_size s)
  by_cases ho1 : o < 1
  · have H := hid (show fieldsB 17 o n s ns = false by have he := HE.out; simp only [fieldsB, opOk, numOk, strOk, nsOk, properB, propB]; grind [sign_none])
    clear HE
    go_enter Tryd.func34, Tryd.ntmps34
    go_wp2_with fail
    go_ret
    exact ⟨by rw [H.out]; rfl, AL.out⟩
  have do1 : decide (o < 1) = false := decide_eq_false ho1
  by_cases ho2 : 7 < o
  · have H := hid (show fieldsB 17 o n s ns = false by have he := HE.out; simp only [fieldsB, opOk, numOk, strOk, nsOk, properB, propB]; grind [sign_none])
    clear HE
    go_enter Tryd.func34, Tryd.ntmps34
    go_wp2_with fail
    go_ret
    exact ⟨by rw [H.out]; rfl, AL.out⟩
  have do2 : decide (7 < o) = false := decide_eq_false ho2
  by_cases hn : n = 0
  case neg =>
    have en : (n != 0) = true := bne_iff_ne.2 hn
    have H := hid (show fieldsB 17 o n s ns = false by have he := HE.out; simp only [fieldsB, opOk, numOk, strOk, nsOk, properB, propB]; grind)
    clear HE
    go_enter Tryd.func34, Tryd.ntmps34
    go_wp2_with fail
    go_ret
    exact ⟨by rw [H.out]; rfl, AL.out⟩
  case pos =>
  subst hn
  by_cases hse : s.size = 0
  case neg =>
    have es : s.toList.isEmpty = false := by rw [HE.out]; exact decide_eq_false hse
    have H := hid (show fieldsB 17 o 0 s ns = false by have he := HE.out; simp only [fieldsB, opOk, numOk, strOk, nsOk, properB, propB]; grind)
    clear HE
    go_enter Tryd.func34, Tryd.ntmps34
    go_wp2_with fail
    go_ret
    exact ⟨by rw [H.out]; rfl, AL.out⟩
  case pos =>
  have es : s.toList.isEmpty = true := by rw [HE.out]; exact decide_eq_true hse
  by_cases hl : ns.length = 0
  case neg =>
    have dl : decide ((0 : Int) < (ns.length : Int)) = true := decide_eq_true (by omega)
    have H := hid (show fieldsB 17 o 0 s ns = false by have he := HE.out; simp only [fieldsB, opOk, numOk, strOk, nsOk, properB, propB]; grind)
    clear HE
    go_enter Tryd.func34, Tryd.ntmps34
    go_wp2_with fail
    go_ret
    exact ⟨by rw [H.out]; rfl, AL.out⟩
  case pos =>
  have H := hid (show fieldsB 17 o 0 s ns = true by have he := HE.out; simp only [fieldsB, opOk, numOk, strOk, nsOk, properB, propB]; grind)
  clear HE
  go_enter Tryd.func34, Tryd.ntmps34
  go_wp2_with fail
  go_loop [5] (fun i => i = .int .i64 0) (fun _ => 0)
  case atStart => rfl
  case round =>
    obtain rfl := hrel
    go_wp2_with fail
    go_ret
    exact ⟨by rw [H.out]; rfl, (by first | exact AL.out | (have hz := AL.out; simpa only [hl] using hz))⟩

set_option maxHeartbeats 6400000 in
set_option maxRecDepth 100000 in
theorem fields_2 (o n : Int) (s : ByteArray) (ns : List ByteArray) (a1 : Option Addr) (q1 : Nat) (a2 : Option Addr) (c2 q2 : Nat) (p : Int) (B : Nat) (w : World) (_hB : B ≤ w.heap.size) (_hS : Hid (StrsIn B (.slice a1 ns.length q1) ns w)) (hns : ns.length ≤ 1000000) :
    Calls Tryd.prog 34 #[.agg #[.int .i64 2, .int .i64 o, .int .i64 n, .string s, .slice a1 ns.length q1, .slice a2 c2 q2, .int .i64 p]] w fun e w' =>
      e = .returned (.bool (fieldsB 2 o n s ns)) ∧ Below w.heap.size w w' := by
  have AL := hid (box1_below w (.cells #[.int .i64 2, .int .i64 o, .int .i64 n, .string s, .slice a1 ns.length q1, .slice a2 c2 q2, .int .i64 p] 25))
  have X := hid (box_new w 2 o n s (.slice a1 ns.length q1) (.slice a2 c2 q2) p)
  have HE := hid (empty_size s)
  by_cases ho : o = 0
  case neg =>
    have eo : (o != 0) = true := bne_iff_ne.2 ho
    have H := hid (show fieldsB 2 o n s ns = false by have he := HE.out; simp only [fieldsB, opOk, numOk, strOk, nsOk, properB, propB]; grind [sign_none])
    clear HE
    go_enter Tryd.func34, Tryd.ntmps34
    go_wp2_with fail
    go_ret
    exact ⟨by rw [H.out]; rfl, AL.out⟩
  case pos =>
  subst ho
  by_cases hn0 : n ≠ 0 ∧ n ≠ 1
  · obtain ⟨hn1, hn2⟩ := hn0
    have en1 : (n != 0) = true := bne_iff_ne.2 hn1
    have en2 : (n != 1) = true := bne_iff_ne.2 hn2
    have H := hid (show fieldsB 2 0 n s ns = false by have he := HE.out; simp only [fieldsB, opOk, numOk, strOk, nsOk, properB, propB]; grind)
    clear HE
    go_enter Tryd.func34, Tryd.ntmps34
    go_wp2_with fail
    go_ret
    exact ⟨by rw [H.out]; rfl, AL.out⟩
  rcases (show n = 0 ∨ n = 1 from by omega) with rfl | rfl
  · clear hn0
    by_cases hse : s.size = 0
    case neg =>
      have es : s.toList.isEmpty = false := by rw [HE.out]; exact decide_eq_false hse
      have H := hid (show fieldsB 2 0 0 s ns = false by have he := HE.out; simp only [fieldsB, opOk, numOk, strOk, nsOk, properB, propB]; grind)
      clear HE
      go_enter Tryd.func34, Tryd.ntmps34
      go_wp2_with fail
      go_ret
      exact ⟨by rw [H.out]; rfl, AL.out⟩
    case pos =>
    have es : s.toList.isEmpty = true := by rw [HE.out]; exact decide_eq_true hse
    by_cases hl : ns.length = 0
    case neg =>
      have dl : decide ((0 : Int) < (ns.length : Int)) = true := decide_eq_true (by omega)
      have H := hid (show fieldsB 2 0 0 s ns = false by have he := HE.out; simp only [fieldsB, opOk, numOk, strOk, nsOk, properB, propB]; grind)
      clear HE
      go_enter Tryd.func34, Tryd.ntmps34
      go_wp2_with fail
      go_ret
      exact ⟨by rw [H.out]; rfl, AL.out⟩
    case pos =>
    have H := hid (show fieldsB 2 0 0 s ns = true by have he := HE.out; simp only [fieldsB, opOk, numOk, strOk, nsOk, properB, propB]; grind)
    clear HE
    go_enter Tryd.func34, Tryd.ntmps34
    go_wp2_with fail
    go_loop [5] (fun i => i = .int .i64 0) (fun _ => 0)
    case atStart => rfl
    case round =>
      obtain rfl := hrel
      go_wp2_with fail
      go_ret
      exact ⟨by rw [H.out]; rfl, (by first | exact AL.out | (have hz := AL.out; simpa only [hl] using hz))⟩
  · clear hn0
    by_cases hse : s.size = 0
    case neg =>
      have es : s.toList.isEmpty = false := by rw [HE.out]; exact decide_eq_false hse
      have H := hid (show fieldsB 2 0 1 s ns = false by have he := HE.out; simp only [fieldsB, opOk, numOk, strOk, nsOk, properB, propB]; grind)
      clear HE
      go_enter Tryd.func34, Tryd.ntmps34
      go_wp2_with fail
      go_ret
      exact ⟨by rw [H.out]; rfl, AL.out⟩
    case pos =>
    have es : s.toList.isEmpty = true := by rw [HE.out]; exact decide_eq_true hse
    by_cases hl : ns.length = 0
    case neg =>
      have dl : decide ((0 : Int) < (ns.length : Int)) = true := decide_eq_true (by omega)
      have H := hid (show fieldsB 2 0 1 s ns = false by have he := HE.out; simp only [fieldsB, opOk, numOk, strOk, nsOk, properB, propB]; grind)
      clear HE
      go_enter Tryd.func34, Tryd.ntmps34
      go_wp2_with fail
      go_ret
      exact ⟨by rw [H.out]; rfl, AL.out⟩
    case pos =>
    have H := hid (show fieldsB 2 0 1 s ns = true by have he := HE.out; simp only [fieldsB, opOk, numOk, strOk, nsOk, properB, propB]; grind)
    clear HE
    go_enter Tryd.func34, Tryd.ntmps34
    go_wp2_with fail
    go_loop [5] (fun i => i = .int .i64 0) (fun _ => 0)
    case atStart => rfl
    case round =>
      obtain rfl := hrel
      go_wp2_with fail
      go_ret
      exact ⟨by rw [H.out]; rfl, (by first | exact AL.out | (have hz := AL.out; simpa only [hl] using hz))⟩

end Go.Proofs.YtlnllpehifkjhaaDoor
