/- The document's writing of instructions. -/
import Derived.Test.YtnojlfdojmkonaaGreatDoorAsPr
import Derived.Test.YtnojlfdojmkonaaGreatDoorJoint13
import Derived.Test.YtnojlfdojmkonaaGreatDoorJoint15
import Derived.Test.YtnojlfdojmkonaaGreatDoorCdRCk
namespace Go.Proofs.YtnojlfdojmkonaaGreatDoor
set_option linter.unusedSimpArgs false
set_option maxRecDepth 100000
open Go.RowKit

def refA : Array Value := (asmW.map fun w => Value.string ⟨w.toArray⟩).toArray
theorem ref_val {o : Int} (h : 1 ≤ o ∧ o ≤ 32) : refA[(o - 1).toNat]? = some (.string ⟨(opW o).toArray⟩) := by
  have : ∀ i : Fin 32, refA[i.val]? = some (.string ⟨(asmW.getD i.val []).toArray⟩) := by
    intro i
    unfold refA
    rw [List.getElem?_toArray, List.getElem?_map, List.getElem?_eq_getElem (show i.val < asmW.length from i.isLt), List.getD_eq_getElem?_getD, List.getElem?_eq_getElem (show i.val < asmW.length from i.isLt)]
    rfl
  have := this ⟨(o - 1).toNat, by omega⟩
  rw [this]
  unfold opW
  rw [if_pos h]
set_option maxHeartbeats 3200000 in
theorem rname_calls (o : Int) (w : World) : Calls Tryz.prog 12 #[.int .i64 o] w fun e w' => e = .returned (.string ⟨(opW o).toArray⟩) ∧ Below w.heap.size w w' := by
  have AL := hid (fun o => box_below w o)
  go_enter Tryz.func12, Tryz.ntmps12
  go_upto_region 2 with fail
  generalize hW : World.alloc w _ = w1
  have BL := hid (show Blk w.heap.size 9 refA w1 by rw [← hW]; exact blk_new w _ _)
  have B1 := hid (show Below w.heap.size w w1 by rw [← hW]; exact AL.out _)
  clear hW
  by_cases h1 : o < 1
  · have e := hid (show opW o = [] by unfold opW; rw [if_neg (by omega)])
    have d1 : decide (o < 1) = true := decide_eq_true h1
    go_wp2_with fail
    go_ret
    exact ⟨by rw [e.out]; rfl, B1.out⟩
  · have d1 : decide (o < 1) = false := decide_eq_false h1
    by_cases h2 : 32 < o
    · have e := hid (show opW o = [] by unfold opW; rw [if_neg (by omega)])
      have d2 : decide (o > 32) = true := decide_eq_true h2
      go_wp2_with fail
      go_ret
      exact ⟨by rw [e.out]; rfl, B1.out⟩
    · have d2 : decide (o > 32) = false := decide_eq_false (by omega)
      obtain ⟨k, rfl⟩ : ∃ k : Nat, o = (k : Int) + 1 := ⟨(o - 1).toNat, by omega⟩
      have hv := ref_val (o := (k : Int) + 1) ⟨by omega, by omega⟩
      rw [show ((k : Int) + 1 - 1).toNat = k by omega] at hv
      have c0 : w1.cell? ⟨w.heap.size, k, none⟩ = some (.string ⟨(opW ((k : Int) + 1)).toArray⟩) := by rw [blk_cell BL.out]; exact hv
      have hk : (k : Int) < 32 := by omega
      have hwk : IntKind.i64.wrap (k : Int) = (k : Int) := by rw [IntKind.wrap_i64]; omega
      clear hv h1 h2
      go_wp2_with fail
      go_ret
      exact ⟨rfl, B1.out⟩

theorem cat_list (a b : ByteArray) : (a ++ b).data.toList = a.data.toList ++ b.data.toList := by simp
theorem lnP_take {w : List UInt8} {ns : List Int} {k : Nat} {n : Int} (h : ns[k]? = some n) : lnP w (ns.take (k + 1)) = lnP w (ns.take k) ++ 32 :: digs n := by
  obtain ⟨hk, rfl⟩ := List.getElem?_eq_some_iff.1 h
  unfold lnP
  rw [List.take_succ_eq_append_getElem hk, List.flatMap_append, List.append_assoc, List.flatMap_singleton]
set_option maxHeartbeats 3200000 in
theorem rline_calls (s : ByteArray) (ns : List Int) (v : Value) (w : World) (hN : Hid (NsIn w.heap.size w v ns)) (hr : Hid (∀ n ∈ ns, -9223372036854775808 ≤ n ∧ n ≤ 9223372036854775807)) (hk4 : ns.length ≤ 1000) (hs : s.size ≤ 1000000000) :
    Calls Tryz.prog 34 #[.string s, v] w fun e w' => (∃ t : ByteArray, e = .returned (.string t) ∧ t.data.toList = lnP s.data.toList ns ++ [10]) ∧ Below w.heap.size w w' := by
  obtain ⟨ao, cap, rfl⟩ := nsIn_shape hN.out
  have D := hid (fun k (n : Int) (h : ns[k]? = some n) => lnP_take (w := s.data.toList) h)
  have hz := Lib.size_eq s
  have HZ := hid hz
  have LEN := hid (fun k => (show (lnP s.data.toList (ns.take k)).length ≤ s.size + k * 22 from by
    have := lnP_len s.data.toList (ns.take k)
    rw [List.length_take] at this
    omega))
  clear hz
  go_enter Tryz.func34, Tryz.ntmps34
  go_wp2_with fail
  go_loopw [0, 5] (fun sv iv wr => ∃ (t : ByteArray) (k : Nat), k ≤ ns.length ∧ sv = .string t ∧ iv = .int .i64 k ∧ Hid (t.data.toList = lnP s.data.toList (ns.take k) ∧ Below w.heap.size w wr)) (fun _ iv _ => ns.length - (intOf iv).toNat)
  case atStart => exact ⟨s, 0, Nat.zero_le _, rfl, rfl, hid ⟨by simp [lnP], Below.refl _ _⟩⟩
  case round =>
    obtain ⟨t, k, hk, rfl, rfl, hR⟩ := hrel
    rename World => wr
    have hln := LEN.out k
    have htz := Lib.size_eq t
    rw [hR.out.1] at htz
    have h1 : ¬ (9223372036854775807 < t.size + 1) := by omega
    by_cases hkl : k < ns.length
    · have hx : ns[k]? = some ns[k] := List.getElem?_eq_getElem hkl
      have DK := hid (D.out k _ hx)
      have hrn := hr.out ns[k] (List.getElem_mem hkl)
      obtain ⟨nb, off, rfl, hnb, c0⟩ := nsIn_at (nsIn_on hN.out hR.out.2) hx
      have HK1 := hid (show k + 1 ≤ ns.length by omega)
      have TL := hid hR.out.1
      have LW := hid hR.out.2
      have HT := hid (show t.size ≤ 1100000000 by omega)
      clear hx hR hln htz
      generalize ns[k] = n at *
      go_wp2_with fail
      refine (refdigits_calls n hrn.1 hrn.2 _).mono ?_
      rintro e w2 ⟨rfl, b2⟩
      have B2 := hid (LW.out.trans (b2.mono LW.out.size))
      have hdl := digs_length n
      have h2 : ¬ (9223372036854775807 < t.size + 1 + (digs n).length) := by have := HT.out; omega
      clear b2 c0
      go_wp2_with fail
      exact ⟨⟨_, k + 1, HK1.out, rfl, by simp, hid ⟨by rw [cat_list, cat_list, TL.out, DK.out]; simp, B2.out⟩⟩, by have := HK1.out; simp [intOf]; omega⟩
    · have hke : k = ns.length := by omega
      have TL := hid (show t.data.toList = lnP s.data.toList ns by rw [hR.out.1, hke, List.take_length])
      have LW := hid hR.out.2
      clear hR hke hk htz hln
      go_wp2_with fail
      go_ret
      exact ⟨⟨_, rfl, by rw [cat_list, TL.out]⟩, LW.out⟩

end Go.Proofs.YtnojlfdojmkonaaGreatDoor
