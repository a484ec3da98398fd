/- The program's writer of instructions: words on a line, and a word and numbers. -/
import Derived.Test.YtnojlfdojmkonaaGreatDoorBld
import Derived.Test.YtnojlfdojmkonaaGreatDoorDig
import Derived.Test.YtnojlfdojmkonaaGreatDoorJoint3
import Derived.Test.YtnojlfdojmkonaaGreatDoorCdMem
import Derived.Test.YtnojlfdojmkonaaGreatDoorJoint5
import Derived.Test.YtnojlfdojmkonaaGreatDoorAsRead
namespace Go.Proofs.YtnojlfdojmkonaaGreatDoor
set_option linter.unusedSimpArgs false
set_option maxRecDepth 100000
open Go.RowKit

theorem fits_aw : Fits 52 2 := ⟨by kernel_rfl, by decide⟩
theorem elAs : Elem 22 9 1 16 := elem_of (z0 := .string ByteArray.empty) (by kernel_rfl) (by kernel_rfl) rfl
/-- a writer at block b that has written l -/
def Aw (B b : Nat) (l : List UInt8) (w : World) : Prop := Has 52 [] B b l w ∧ B ≤ w.heap.size
theorem aw_lt {B b : Nat} {l : List UInt8} {w : World} (h : Aw B b l w) : b < w.heap.size := h.1.lt
theorem aw_low {B b : Nat} {l : List UInt8} {w : World} (h : Aw B b l w) : B ≤ b := by obtain ⟨⟨p, v, h⟩, _⟩ := h; exact h.low
theorem aw_below {B b : Nat} {l : List UInt8} {a c : World} (h : Aw B b l a) (q : Below a.heap.size a c) : Aw B b l c := by
  obtain ⟨⟨p, v, h1⟩, h2⟩ := h
  have hb : b < a.heap.size := aw_lt ⟨⟨p, v, h1⟩, h2⟩
  refine ⟨⟨p, v, h1.low, h1.seen, (q.block b hb).trans h1.blk, ?_, h1.ne, h1.nil⟩, Nat.le_trans h2 q.size⟩
  refine ⟨h1.own.1, ?_⟩
  rcases h1.own.2 with h3 | ⟨g, cap, cur, hv, hg, hh, r⟩
  · exact .inl h3
  · have hgl : g < a.heap.size := lt_of_block hh
    exact .inr ⟨g, cap, cur, hv, hg, (q.block g hgl).trans hh, r⟩
theorem aw_byte {B b : Nat} {l : List UInt8} {w : World} (c : UInt8) (n : Int) (hn : n = (c.toNat : Int)) (h : Hid (Aw B b l w)) (hl : l.length ≤ 1000000000) :
    Calls Tryz.prog 53 #[.pointer (some ⟨b, 0, none⟩), .int .u8 n] w fun e w' => e = .returned .nilIface ∧ Aw B b (l ++ [c]) w' ∧ Near B b w w' :=
  (writeByte_near _ _ B b l c n hn w h.out.1 fits_aw (by omega) h.out.2).mono fun _ _ ⟨h1, h2, h3⟩ => ⟨h1, ⟨h2, Nat.le_trans h.out.2 h3.below.size⟩, h3⟩
theorem aw_str {B b : Nat} {l : List UInt8} {w : World} (s : ByteArray) (hs0 : l ++ s.data.toList ≠ []) (h : Hid (Aw B b l w)) (hl : l.length ≤ 1000000000) (hs : s.size ≤ 1000000000) :
    Calls Tryz.prog 52 #[.pointer (some ⟨b, 0, none⟩), .string s] w fun e w' => e = .returned (.tuple #[.int .i64 s.size, .nilIface]) ∧ Aw B b (l ++ s.data.toList) w' ∧ Near B b w w' :=
  (writeString_near _ _ B b l s hs0 w h.out.1 fits_aw (by omega) h.out.2).mono fun _ _ ⟨h1, h2, h3⟩ => ⟨h1, ⟨h2, Nat.le_trans h.out.2 h3.below.size⟩, h3⟩
/-- strings in a row -/
def StrR (w : World) (v : Value) (ss : List ByteArray) : Prop :=
  (∃ ao c, v = .slice ao 0 c ∧ ss = []) ∨ ∃ g cap cur, v = .slice (some ⟨g, 0, none⟩) ss.length cap ∧ Blk g 9 cur w ∧ ∀ (i : Nat) s, ss[i]? = some s → w.cell? ⟨g, i, none⟩ = some (.string s)
theorem strR_row {w : World} {v : Value} {ss : List ByteArray} (h : w.ownsRow 0 9 1 v ss.length (ss.map Value.string)) : StrR w v ss := by
  rcases h.2 with ⟨h1, h2⟩ | ⟨g, cap, cur, h1, h2, h3, h4⟩
  · exact .inl ⟨none, 0, by rw [h1], List.length_eq_zero_iff.1 h2⟩
  · subst h1
    exact .inr ⟨g, cap, cur, rfl, h3, fun i s hi => row_cell h (by rw [List.getElem?_map, hi]; rfl)⟩
theorem strR_one (w : World) (s : ByteArray) : StrR (w.alloc (.cells #[.string s] 9)) (.slice (some ⟨w.heap.size, 0, none⟩) 1 1) [s] :=
  .inr ⟨w.heap.size, 1, _, rfl, blk_new w _ _, fun i x hi => by
    have := blk_new w 9 #[.string s]
    rw [blk_cell this]
    cases i with
    | zero => simp at hi; subst hi; rfl
    | succ i => simp at hi⟩
theorem strR_shape {w : World} {v : Value} {ss : List ByteArray} (h : StrR w v ss) : ∃ ao cap, v = .slice ao ss.length cap := by
  rcases h with ⟨ao, c, e, rfl⟩ | ⟨g, cap, cur, e, _⟩
  · exact ⟨ao, c, e⟩
  · exact ⟨_, cap, e⟩
theorem strR_near {B b : Nat} {l : List UInt8} {v : Value} {ss : List ByteArray} {a c : World} (h : StrR a v ss) (hA : Aw B b l a) (q : Near B b a c) : StrR c v ss := by
  rcases h with h | ⟨g, cap, cur, e, hb, hc⟩
  · exact .inl h
  · have hne : g ≠ b := fun e => by
      obtain ⟨⟨p, u, h1⟩, _⟩ := hA
      have h2 : a.heap[b]? = _ := h1.blk
      have h3 : a.heap[g]? = _ := hb
      rw [e, h2] at h3
      injection h3 with h3; injection h3 with _ h3
      exact absurd h3 (by decide)
    have hk : c.heap[g]? = a.heap[g]? := q.rest g (blk_lt hb) hne fun cur' fz e' => by
      have h3 : a.heap[g]? = _ := hb
      rw [h3] at e'
      injection e' with e'; injection e' with _ e'
      exact absurd e' (by decide)
    exact .inr ⟨g, cap, cur, e, hk.trans hb, fun i s hi => by
      have := hc i s hi
      unfold World.cell? at this ⊢
      simp only at this ⊢
      rw [hk]; exact this⟩
theorem strR_at {w : World} {ao : Option Addr} {cap i : Nat} {ss : List ByteArray} {s : ByteArray} (h : StrR w (.slice ao ss.length cap) ss) (hi : ss[i]? = some s) : ∃ g, ao = some ⟨g, 0, none⟩ ∧ w.cell? ⟨g, i, none⟩ = some (.string s) := by
  rcases h with ⟨ao', c, e, rfl⟩ | ⟨g, cap', cur, e, hb, hc⟩
  · simp at hi
  · injection e with e1
    subst e1
    exact ⟨g, rfl, hc i s hi⟩
/-- a line's bytes, but for its end -/
def lnB (first : ByteArray) (ss : List ByteArray) : List UInt8 := first.data.toList ++ ss.flatMap fun s => 32 :: s.data.toList
theorem lnB_take {first : ByteArray} {ss : List ByteArray} {k : Nat} {s : ByteArray} (h : ss[k]? = some s) : lnB first (ss.take (k + 1)) = lnB first (ss.take k) ++ 32 :: s.data.toList := by
  obtain ⟨hk, rfl⟩ := List.getElem?_eq_some_iff.1 h
  unfold lnB
  rw [List.take_succ_eq_append_getElem hk, List.flatMap_append, List.append_assoc, List.flatMap_singleton]
theorem lnB_le {first : ByteArray} (ss : List ByteArray) (k : Nat) : (lnB first (ss.take k)).length ≤ (lnB first ss).length := by
  conv => rhs; rw [← List.take_append_drop k ss]
  unfold lnB
  simp only [List.length_append, List.flatMap_append]
  omega

set_option maxHeartbeats 1600000 in
theorem aline_calls {B b : Nat} {l : List UInt8} (first : ByteArray) (ss : List ByteArray) (v : Value) (w : World) (h : Hid (Aw B b l w)) (hS : Hid (StrR w v ss)) (hf : first.data.toList ≠ []) (hn : ss.length ≤ 1000000) (hl : l.length + (lnB first ss).length ≤ 900000000) :
    Calls Tryz.prog 31 #[.pointer (some ⟨b, 0, none⟩), .string first, v] w fun e w' => e = .returned (.tuple #[]) ∧ Aw B b (l ++ (lnB first ss ++ [10])) w' ∧ Near B b w w' := by
  obtain ⟨ao, cap, rfl⟩ := strR_shape hS.out
  have hfs : first.size ≤ first.data.toList.length := Nat.le_of_eq (Lib.size_eq first)
  have hln : first.data.toList.length ≤ (lnB first ss).length := by unfold lnB; simp
  have F := hid hf
  have S := hid (fun k (s : ByteArray) (h : ss[k]? = some s) => lnB_take (first := first) h)
  have L := hid (fun k => lnB_le (first := first) ss k)
  have h0 : lnB first (ss.take 0) = first.data.toList := by simp [lnB]
  have H0 := hid h0
  have hne : ∀ k, l ++ lnB first (ss.take k) ≠ [] := fun k e => by
    rw [List.append_eq_nil_iff] at e
    have := e.2
    unfold lnB at this
    rw [List.append_eq_nil_iff] at this
    exact F.out this.1
  have NE := hid hne
  clear h0 hf hne
  go_enter Tryz.func31, Tryz.ntmps31
  go_wp2_with fail
  refine (aw_str first (by rw [← H0.out]; exact NE.out 0) h (by omega) (by omega)).mono ?_
  rintro e w1 ⟨rfl, hw1, n1⟩
  have W1 := hid (show Aw B b (l ++ lnB first (ss.take 0)) w1 by rw [H0.out]; exact hw1)
  have N1 := hid n1
  clear hw1 n1
  go_wp2_with fail
  go_loopw [15] (fun iv wr => ∃ k : Nat, k ≤ ss.length ∧ iv = .int .i64 k ∧ Hid (Aw B b (l ++ lnB first (ss.take k)) wr ∧ Near B b w wr)) (fun iv _ => ss.length - (intOf iv).toNat)
  case atStart => exact ⟨0, Nat.zero_le _, rfl, hid ⟨W1.out, N1.out⟩⟩
  case round =>
    clear W1 N1
    obtain ⟨k, hk, rfl, hR⟩ := hrel
    have hlk := L.out k
    by_cases hkl : k < ss.length
    · have hx : ss[k]? = some ss[k] := List.getElem?_eq_getElem hkl
      have hsk := S.out k _ hx
      have HK1 := hid (show k + 1 ≤ ss.length by omega)
      have hlk1 := L.out (k + 1)
      have hss : ss[k].size ≤ ss[k].data.toList.length := Nat.le_of_eq (Lib.size_eq _)
      rw [hsk] at hlk1
      simp only [List.length_append, List.length_cons] at hlk1
      obtain ⟨g, rfl, c0⟩ := strR_at (strR_near hS.out h.out hR.out.2) hx
      have SK := hid hsk
      have NE' := hid (NE.out (k + 1))
      clear hsk hx
      generalize ss[k] = s at *
      generalize lnB first (ss.take k) = m at *
      have hlm : (l ++ m).length ≤ l.length + m.length := Nat.le_of_eq List.length_append
      have hlm1 : (l ++ m ++ [32]).length ≤ l.length + m.length + 1 := by simp; omega
      have W := hid hR.out.1
      go_wp2_with fail
      refine (aw_byte 32 32 rfl W (by omega)).mono ?_
      rintro e w2 ⟨rfl, hw2, n2⟩
      have W2 := hid hw2
      have N2 := hid (hR.out.2.trans n2)
      clear hw2 n2 c0
      go_wp2_with fail
      refine (aw_str s (by simp) W2 (by omega) (by omega)).mono ?_
      rintro e w3 ⟨rfl, hw3, n3⟩
      have W3 := hid hw3
      have N3 := hid (N2.out.trans n3)
      clear hw3 n3
      go_wp2_with fail
      go_roundw
      case rel => exact ⟨k + 1, HK1.out, by go_num, hid ⟨by rw [SK.out]; simpa using W3.out, N3.out⟩⟩
      case measure => have := HK1.out; simp [intOf]; omega
    · have e : ss.take k = ss := List.take_of_length_le (by omega)
      have HR := hid (show Aw B b (l ++ lnB first ss) _ by rw [← e]; exact hR.out.1)
      have NR := hid hR.out.2
      clear e hR
      have hlm : (l ++ lnB first ss).length ≤ l.length + (lnB first ss).length := Nat.le_of_eq List.length_append
      go_wp2_with fail
      refine (aw_byte 10 10 rfl HR (by omega)).mono ?_
      rintro e w2 ⟨rfl, hw2, n2⟩
      have W2 := hid hw2
      have N2 := hid (NR.out.trans n2)
      clear hw2 n2
      go_wp2_with fail
      go_end0
      exact ⟨rfl, by simpa using W2.out, N2.out⟩

/-- numbers' digits -/
def digB (ns : List Int) : List ByteArray := ns.map fun n => ⟨(digs n).toArray⟩
theorem lnB_num (first : ByteArray) (ns : List Int) : lnB first (digB ns) = lnP first.data.toList ns := by
  unfold lnB digB lnP
  rw [List.flatMap_map]
theorem digB_take {ns : List Int} {k : Nat} {n : Int} (h : ns[k]? = some n) : (digB (ns.take (k + 1))).map Value.string = (digB (ns.take k)).map Value.string ++ [.string ⟨(digs n).toArray⟩] := by
  obtain ⟨hk, rfl⟩ := List.getElem?_eq_some_iff.1 h
  unfold digB
  rw [List.take_succ_eq_append_getElem hk, List.map_append, List.map_append]
  rfl
set_option maxHeartbeats 1600000 in
theorem anums_calls {B b : Nat} {l : List UInt8} (first : ByteArray) (ns : List Int) (v : Value) (w : World) (h : Hid (Aw B b l w)) (hN : Hid (NsIn w.heap.size w v ns)) (hf : first.data.toList ≠ []) (hr : ∀ n ∈ ns, -9223372036854775808 ≤ n ∧ n ≤ 9223372036854775807) (hk4 : ns.length ≤ 1000)
    (hl : l.length + (lnP first.data.toList ns).length ≤ 900000000) :
    Calls Tryz.prog 30 #[.pointer (some ⟨b, 0, none⟩), .string first, v] w fun e w' => e = .returned (.tuple #[]) ∧ Aw B b (l ++ (lnP first.data.toList ns ++ [10])) w' ∧ Near B b w w' := by
  obtain ⟨ao, cap, rfl⟩ := nsIn_shape hN.out
  have F := hid hf
  have R := hid hr
  have D := hid (fun k (n : Int) (h : ns[k]? = some n) => digB_take h)
  have DL := hid (fun k (hk : k ≤ ns.length) => (show (digB (ns.take k)).length = k by simp [digB]; omega))
  have hBw := h.out.2
  clear hf hr
  go_enter Tryz.func30, Tryz.ntmps30
  go_wp2_with fail
  go_loopw [6, 11] (fun dv iv wr => ∃ k : Nat, k ≤ ns.length ∧ iv = .int .i64 k ∧ Hid (wr.ownsRow 0 9 1 dv k ((digB (ns.take k)).map Value.string) ∧ (∀ g, dv.ownBlock = some g → w.heap.size ≤ g) ∧ Below w.heap.size w wr)) (fun _ iv _ => ns.length - (intOf iv).toNat)
  case atStart => exact ⟨0, Nat.zero_le _, rfl, hid ⟨World.ownsRow_nil _ _ _ _, fun g hg => by simp [Value.ownBlock] at hg, Below.refl _ _⟩⟩
  case round =>
    obtain ⟨k, hk, rfl, hR⟩ := hrel
    rename World => wr
    obtain ⟨da, dc, rfl⟩ := row_shape hR.out.1
    by_cases hkl : k < ns.length
    · have hx : ns[k]? = some ns[k] := List.getElem?_eq_getElem hkl
      have DK := hid (D.out k _ hx)
      have hrn := R.out ns[k] (List.getElem_mem hkl)
      obtain ⟨nb, off, rfl, hnb, c0⟩ := nsIn_at (nsIn_on hN.out hR.out.2.2) hx
      clear hx
      generalize ns[k] = n at *
      go_wp2_with fail
      refine (digits_calls n hrn.1 hrn.2 _).mono ?_
      rintro e w2 ⟨rfl, b2⟩
      have B2 := hid b2
      have RW := hid (row_keep hR.out.1 (fun g hg => by
        obtain ⟨cur, hc⟩ := row_lt hR.out.1 hg
        exact b2.block g (blk_lt hc)))
      have hlow := hid (hR.out.2.1)
      have LW := hid (below_on hR.out.2.2 b2)
      clear b2 c0 hR
      generalize (digB (ns.take k)).map Value.string = done at *
      go_wp2_with (first | (at_builtin; refine row_app elAs (by decide) (by decide) rfl _ _ rfl k done [.string ⟨(digs n).toArray⟩] rfl (by intro u hu; simp at hu; subst hu; rfl) (.slice da k dc) (by rfl) RW.out w2.heap.size (by rfl) rfl (by omega) ?_; intro g cp w3 hown hgrow hat; have HO := hid hown; have HG := hid hgrow; have HT := hid hat; clear hown hgrow hat) | fail)
      have hsz2 := LW.out.size
      go_roundw
      case rel =>
        exact ⟨k + 1, by omega, by go_num, hid ⟨by rw [DK.out]; exact HO.out, fun g' hg' => by
          simp [Value.ownBlock] at hg'
          subst hg'
          rcases HT.out with h1 | h1
          · exact hlow.out _ h1
          · omega, LW.out.trans ((Keep.grown (S := fun x => w.heap.size ≤ x) HG.out (fun x hx => hlow.out x hx)).below hsz2 (fun _ h => h))⟩⟩
      case measure => simp [intOf]; omega
    · have hke : k = ns.length := by omega
      have e : ns.take k = ns := List.take_of_length_le (by omega)
      have hlen : (digB ns).length = k := by simp [digB]; omega
      have SR := hid (strR_row (show wr.ownsRow 0 9 1 (.slice da k dc) (digB ns).length ((digB ns).map Value.string) by rw [hlen]; rw [e] at hR; exact hR.out.1))
      have AW := hid (aw_below h.out hR.out.2.2)
      have NR := hid (Near.ofBelow (b := b) hR.out.2.2 hBw)
      clear e hlen hR hke hk
      have hlb := hid (lnB_num first ns)
      go_wp2_with fail
      refine (aline_calls first (digB ns) (.slice da k dc) _ AW SR F.out (by simp [digB]; omega) (by rw [hlb.out]; omega)).mono ?_
      rintro e w2 ⟨rfl, hw2, n2⟩
      rw [hlb.out] at hw2
      have W2 := hid hw2
      have N2 := hid (NR.out.trans n2)
      clear hw2 n2
      go_wp2_with fail
      go_end0
      exact ⟨rfl, W2.out, N2.out⟩

end Go.Proofs.YtnojlfdojmkonaaGreatDoor
