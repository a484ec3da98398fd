/- What num.Read and the document's Read answer, for any text (NumRead, NumReads and RefNum's Read again, for cuts without num's other functions, ending in Below). One token, as the program reads it. -/
import Derived.Test.YtijbiedblahmhaaDoorProg
import Derived.Test.YtijbiedblahmhaaDoorJoint2
import Derived.Test.YtijbiedblahmhaaDoorJoint1
import Derived.Lib.Strings
import Derived.Test.YtijbiedblahmhaaDoorJoint22
import Derived.Test.YtijbiedblahmhaaDoorJoint23
namespace Go.Proofs.YtijbiedblahmhaaDoor
open Go.RowKit

/-! the closure of num.reading -/
theorem take_above (d n : Int) (pa pn : Nat) (w : World) (ab : Bool) (hn : w.cell? ⟨pn, 0, none⟩ = some (.int .i64 n)) (ha : w.cell? ⟨pa, 0, none⟩ = some (.bool ab))
    (fa : w.frozen? ⟨pa, 0, none⟩ = false) (d0 : 0 ≤ d) (d9 : d ≤ 9) (h : ab = true ∨ (4611686018427387903 - d) / 10 < n) :
    Calls Tryd.prog 60 #[.int .i64 d, .pointer (some ⟨pa, 0, none⟩), .pointer (some ⟨pn, 0, none⟩)] w fun e w' =>
      e = .returned (.tuple #[.int .i64 0, .int .i64 10]) ∧ w.setCell ⟨pa, 0, none⟩ (.bool true) = w' := by
  cases ab
  · have h2 : (4611686018427387903 - d) / 10 < n := by simpa using h
    clear h
    go_enter Tryd.func60, Tryd.ntmps60
    go_wp2
    go_ret2
    exact ⟨rfl, rfl⟩
  · clear h
    go_enter Tryd.func60, Tryd.ntmps60
    go_wp2
    go_ret2
    exact ⟨rfl, rfl⟩

theorem take_more (d n : Int) (pa pn : Nat) (w : World) (hn : w.cell? ⟨pn, 0, none⟩ = some (.int .i64 n)) (ha : w.cell? ⟨pa, 0, none⟩ = some (.bool false))
    (fn : w.frozen? ⟨pn, 0, none⟩ = false) (d0 : 0 ≤ d) (d9 : d ≤ 9) (n0 : 0 ≤ n) (h : n ≤ (4611686018427387903 - d) / 10) :
    Calls Tryd.prog 60 #[.int .i64 d, .pointer (some ⟨pa, 0, none⟩), .pointer (some ⟨pn, 0, none⟩)] w fun e w' =>
      e = .returned (.tuple #[.int .i64 (10 * n + d), .int .i64 0]) ∧ w.setCell ⟨pn, 0, none⟩ (.int .i64 (10 * n + d)) = w' := by
  go_enter Tryd.func60, Tryd.ntmps60
  go_wp2
  go_ret2
  exact ⟨rfl, rfl⟩

theorem reading_calls (w : World) :
    Calls Tryd.prog 50 #[] w fun e w' =>
      e = .returned (.func (.func 60) #[] #[.pointer (some ⟨w.heap.size + 1, 0, none⟩), .pointer (some ⟨w.heap.size, 0, none⟩)]) ∧
        (w.alloc (Obj.cells #[.int .i64 0] 3)).alloc (Obj.cells #[.bool false] 4) = w' := by
  have hmf : ∀ (fn : Fn) (first cap : Array Value) (w : World), (Instr.makeFunc fn first cap).run Tryd.prog w = .ok (.func fn first cap) w := fun _ _ _ _ => rfl
  go_enter Tryd.func50, Tryd.ntmps50
  go_wp2
  go_ret
  exact ⟨rfl, rfl⟩

/-- what the round knows of memory: the two variables of the closure -/
structure KeptR (w : World) (n : Int) (ab : Bool) (wr : World) : Prop where
  cn : wr.cell? ⟨w.heap.size, 0, none⟩ = some (.int .i64 n)
  ca : wr.cell? ⟨w.heap.size + 1, 0, none⟩ = some (.bool ab)
  fn : wr.frozen? ⟨w.heap.size, 0, none⟩ = false
  fa : wr.frozen? ⟨w.heap.size + 1, 0, none⟩ = false
  gr : Below w.heap.size w wr

theorem kept_start (w : World) : KeptR w 0 false ((w.alloc (Obj.cells #[.int .i64 0] 3)).alloc (Obj.cells #[.bool false] 4)) where
  cn := by simp
  ca := by simp
  fn := by simp
  fa := by simp
  gr := ((Below.refl _ _).alloc (Nat.le_refl _) _).alloc (by simp) _

theorem kept_above {w wr : World} {n : Int} {ab : Bool} (h : KeptR w n ab wr) : KeptR w n true (wr.setCell ⟨w.heap.size + 1, 0, none⟩ (.bool true)) where
  cn := by rw [World.cell?_setCell_other (h := by simp)]; exact h.cn
  ca := World.cell?_setCell_same' _ _ _ (by rw [h.ca]; rfl)
  fn := by simp [h.fn]
  fa := by simp [h.fa]
  gr := h.gr.setCell (by simp) _

theorem kept_more {w wr : World} {n : Int} {ab : Bool} (h : KeptR w n ab wr) (m : Int) : KeptR w m ab (wr.setCell ⟨w.heap.size, 0, none⟩ (.int .i64 m)) where
  cn := World.cell?_setCell_same' _ _ _ (by rw [h.cn]; rfl)
  ca := by rw [World.cell?_setCell_other (h := by simp)]; exact h.ca
  fn := by simp [h.fn]
  fa := by simp [h.fa]
  gr := h.gr.setCell (by simp) _

set_option maxHeartbeats 800000 in
theorem read_calls (s : ByteArray) (hs : s.size ≤ 4611686018427387903) (w : World) :
    Calls Tryd.prog 39 #[.string s] w fun e w' =>
      e = .returned (.tuple #[.int .i64 (readOut s.data.toList).1, .int .i64 (readOut s.data.toList).2]) ∧ Below w.heap.size w w' := by
  by_cases h0 : s.size = 0
  · have he : s.data.toList = [] := by
      have : s.data.toList.length = 0 := by simpa using h0
      exact List.length_eq_zero_iff.1 this
    have he2 : s.toList.isEmpty = true := by
      rw [Lib.toList_data, he]; rfl
    go_enter Tryd.func39, Tryd.ntmps39
    go_wp2
    go_ret2
    exact ⟨by rw [he]; rfl, Below.refl _ _⟩
  · have he2 : s.toList.isEmpty = false := by
      rw [Lib.toList_data]
      cases h : s.data.toList with
      | nil => exact absurd (show s.size = 0 from by have : s.data.toList.length = 0 := by rw [h]; rfl
                                                     simpa using this) h0
      | cons => rfl
    go_enter Tryd.func39, Tryd.ntmps39
    go_wp2_with (go_at_call 50; refine (reading_calls _).mono ?_; rintro e w' ⟨rfl, rfl⟩)
    go_loopw [5, 6, 7] (fun n e i wr => ∃ k : Nat, k ≤ s.size ∧ i = .int .i64 k ∧ n = .int .i64 (rout (rst (s.data.toList.take k))).1 ∧ e = .int .i64 (rout (rst (s.data.toList.take k))).2 ∧
        (s.data.toList.take k).all isDig = true ∧ KeptR w (rst (s.data.toList.take k)).1 (rst (s.data.toList.take k)).2 wr) (fun _ _ i _ => s.size - (intOf i).toNat)
    case atStart => exact ⟨0, Nat.zero_le _, rfl, rfl, rfl, rfl, kept_start w⟩
    case round =>
      obtain ⟨k, hk, rfl, rfl, rfl, hall, hkept⟩ := hrel
      by_cases hkl : k < s.size
      · have hbs : k < s.data.toList.length := by simpa using hkl
        have hget : s.data.toList[k] = s[k] := by rw [Array.getElem_toList]; rfl
        have hlast := take_succ_dig _ k hbs
        rw [hget] at hlast
        rcases (show s[k].toNat < 48 ∨ 57 < s[k].toNat ∨ (48 ≤ s[k].toNat ∧ s[k].toNat ≤ 57) from by omega) with hl | hh | hd
        · have hbad : readOut s.data.toList = (0, 11) := readOut_bad hbs (by rw [hget]; simp [isDig]; omega)
          have Hbad : Hid (readOut s.data.toList = (0, 11)) := hbad
          clear hbad hlast hget
          go_wp2
          go_ret2
          exact ⟨by rw [Hbad.out]; rfl, hkept.gr⟩
        · have hbad : readOut s.data.toList = (0, 11) := readOut_bad hbs (by rw [hget]; simp [isDig]; omega)
          have Hbad : Hid (readOut s.data.toList = (0, 11)) := hbad
          clear hbad hlast hget
          go_wp2
          go_ret2
          exact ⟨by rw [Hbad.out]; rfl, hkept.gr⟩
        · obtain ⟨d0, d9⟩ := hd
          have hb := rst_bounds _ hall
          have hdig : isDig s[k] = true := by simp [isDig]; omega
          have hall' : (s.data.toList.take (k + 1)).all isDig = true := by rw [hlast, List.all_append, hall]; simp [hdig]
          have hnext : rst (s.data.toList.take (k + 1)) = rstep (rst (s.data.toList.take k)) ((s[k].toNat : Int) - 48) := by rw [hlast, rst_snoc]
          by_cases hab : (rst (s.data.toList.take k)).2 = true ∨ (4611686018427387903 - ((s[k].toNat : Int) - 48)) / 10 < (rst (s.data.toList.take k)).1
          · have hst : rstep (rst (s.data.toList.take k)) ((s[k].toNat : Int) - 48) = ((rst (s.data.toList.take k)).1, true) := by unfold rstep; rw [if_pos hab]
            have R : Hid (∀ wx, wr.setCell ⟨w.heap.size + 1, 0, none⟩ (.bool true) = wx → KeptR w (rst (s.data.toList.take (k + 1))).1 (rst (s.data.toList.take (k + 1))).2 wx) := by
              rintro wx rfl; rw [hnext, hst]; exact kept_above hkept
            have Hout : Hid (rout (rst (s.data.toList.take (k + 1))) = (0, 10)) := by
              show rout (rst (s.data.toList.take (k + 1))) = (0, 10)
              rw [hnext, hst]; rfl
            have Hab : Hid ((rst (s.data.toList.take k)).2 = true ∨ (4611686018427387903 - ((s[k].toNat : Int) - 48)) / 10 < (rst (s.data.toList.take k)).1) := hab
            have Hk : Hid (KeptR w (rst (s.data.toList.take k)).1 (rst (s.data.toList.take k)).2 wr) := hkept
            have Hall : Hid ((s.data.toList.take (k + 1)).all isDig = true) := hall'
            clear hlast hget hnext hst hall hall' hab hkept hb hdig
            go_wp2_with fail
            refine (take_above _ _ _ _ _ _ Hk.out.cn Hk.out.ca Hk.out.fa (by omega) (by omega) Hab.out).mono ?_
            rintro e w1 ⟨rfl, hw⟩
            have R1 : Hid (KeptR w (rst (s.data.toList.take (k + 1))).1 (rst (s.data.toList.take (k + 1))).2 w1) := R.out w1 hw
            clear R hw Hab Hk
            go_wp2
            go_roundw
            case rel => exact ⟨k + 1, by omega, by go_num, by rw [Hout.out], by rw [Hout.out], Hall.out, R1.out⟩
            case measure => simp [intOf]; omega
          · have hb2 : (rst (s.data.toList.take k)).2 = false := by
              cases hx : (rst (s.data.toList.take k)).2 with
              | false => rfl
              | true => exact absurd (Or.inl hx) hab
            have hle : (rst (s.data.toList.take k)).1 ≤ (4611686018427387903 - ((s[k].toNat : Int) - 48)) / 10 := by
              rw [hb2] at hab; simp at hab; omega
            have hst : rstep (rst (s.data.toList.take k)) ((s[k].toNat : Int) - 48) = (10 * (rst (s.data.toList.take k)).1 + ((s[k].toNat : Int) - 48), false) := by unfold rstep; rw [if_neg hab]
            have R : Hid (∀ wx, wr.setCell ⟨w.heap.size, 0, none⟩ (.int .i64 (10 * (rst (s.data.toList.take k)).1 + ((s[k].toNat : Int) - 48))) = wx → KeptR w (rst (s.data.toList.take (k + 1))).1 (rst (s.data.toList.take (k + 1))).2 wx) := by
              rintro wx rfl; rw [hnext, hst]; rw [hb2] at hkept; exact kept_more hkept _
            have Hout : Hid (rout (rst (s.data.toList.take (k + 1))) = (10 * (rst (s.data.toList.take k)).1 + ((s[k].toNat : Int) - 48), 0)) := by
              show rout (rst (s.data.toList.take (k + 1))) = (10 * (rst (s.data.toList.take k)).1 + ((s[k].toNat : Int) - 48), 0)
              rw [hnext, hst]; rfl
            have Hk : Hid (KeptR w (rst (s.data.toList.take k)).1 false wr) := by rw [hb2] at hkept; exact hkept
            have Hle : Hid ((rst (s.data.toList.take k)).1 ≤ (4611686018427387903 - ((s[k].toNat : Int) - 48)) / 10) := hle
            have Hb : Hid (0 ≤ (rst (s.data.toList.take k)).1) := hb.1
            have Hall : Hid ((s.data.toList.take (k + 1)).all isDig = true) := hall'
            clear hlast hget hnext hst hall hall' hab hkept hb hdig hb2 hle
            go_wp2_with fail
            refine (take_more _ _ _ _ _ Hk.out.cn Hk.out.ca Hk.out.fn (by omega) (by omega) Hb.out Hle.out).mono ?_
            rintro e w1 ⟨rfl, hw⟩
            have R1 : Hid (KeptR w (rst (s.data.toList.take (k + 1))).1 (rst (s.data.toList.take (k + 1))).2 w1) := R.out w1 hw
            clear R hw Hk Hle Hb
            go_wp2
            go_roundw
            case rel => exact ⟨k + 1, by omega, by go_num, by rw [Hout.out], by rw [Hout.out], Hall.out, R1.out⟩
            case measure => simp [intOf]; omega
      · have hke : s.data.toList.length = k := by simp; omega
        have hfull : readOut s.data.toList = rout (rst (s.data.toList.take k)) := by
          rw [← hke, List.take_length]
          refine readOut_good ?_ ?_
          · intro h; rw [h] at hke; simp at hke; omega
          · rw [← hke, List.take_length] at hall; exact hall
        have Hfull : Hid (readOut s.data.toList = rout (rst (s.data.toList.take k))) := hfull
        have Hgr : Hid (Below w.heap.size w wr) := hkept.gr
        clear hfull hke hall hkept
        go_wp2
        go_ret2
        exact ⟨by rw [Hfull.out]; rfl, Hgr.out⟩

end Go.Proofs.YtijbiedblahmhaaDoor

namespace Go.Proofs.YtijbiedblahmhaaDoor
open Go.RowKit

theorem cell_stays {a b : World} (k : Below a.heap.size a b) {p : Addr} (h : p.block < a.heap.size) {v : Value} (c : a.cell? p = some v) : b.cell? p = some v := (k.cell h).trans c
theorem texts_on {g : Nat} {L : List (List UInt8)} {a b : World} (h : Texts g L a) (hg : g < a.heap.size) (k : Below a.heap.size a b) : Texts g L b := fun i hi => cell_stays k hg (h i hi)

theorem ret_t {fn : Func} {t u v : Tmp} (h : fn.results = #[.cell t 41, .tmp u, .tmp v]) {tmps : Array Value} {g : Nat} {w : World} {x y z q : Value} (ht : tmps.getD t undef = .pointer (some ⟨g, 0, none⟩))
    (c : w.cell? ⟨g, 0, none⟩ = some x ∧ w.cell? ⟨g, 1, none⟩ = some y ∧ w.cell? ⟨g, 2, none⟩ = some z ∧ w.cell? ⟨g, 3, none⟩ = some q) :
    (results fn tmps).run Tryd.prog w = .ok (.tuple #[.agg #[x, y, z, q], tmps.getD u undef, tmps.getD v undef]) w := by
  rw [Array.getD_eq_getD_getElem?] at ht
  simp [results, h, ht, go_sem, asAddr, c.1, c.2.1, c.2.2.1, c.2.2.2]
/-- a token's block of the call's own, which may be written -/
def Slot4 (g : Nat) (w : World) : Prop :=
  g < w.heap.size ∧ w.cell? ⟨g, 0, none⟩ = some (.int .i64 0) ∧ w.cell? ⟨g, 1, none⟩ = some (.string ⟨#[]⟩) ∧ w.cell? ⟨g, 2, none⟩ = some (.int .i64 0) ∧ w.cell? ⟨g, 3, none⟩ = some (.int .i64 0) ∧
    w.frozen? ⟨g, 0, none⟩ = false ∧ w.frozen? ⟨g, 1, none⟩ = false ∧ w.frozen? ⟨g, 2, none⟩ = false ∧ w.frozen? ⟨g, 3, none⟩ = false

theorem slot4_on {g : Nat} {a b : World} (h : Slot4 g a) (k : Below a.heap.size a b) : Slot4 g b := by
  obtain ⟨h0, h1, h2, h3, h4, f0, f1, f2, f3⟩ := h
  exact ⟨Nat.lt_of_lt_of_le h0 k.size, cell_stays k h0 h1, cell_stays k h0 h2, cell_stays k h0 h3, cell_stays k h0 h4, (k.frozen (p := ⟨g, 0, none⟩) h0).trans f0, (k.frozen (p := ⟨g, 1, none⟩) h0).trans f1,
    (k.frozen (p := ⟨g, 2, none⟩) h0).trans f2, (k.frozen (p := ⟨g, 3, none⟩) h0).trans f3⟩
theorem slot4_new (w : World) {g : Nat} (hg : g = w.heap.size) (t : TypeId) : Slot4 g (w.alloc (Obj.cells #[.int .i64 0, .string ⟨#[]⟩, .int .i64 0, .int .i64 0] t)) := by
  subst hg
  refine ⟨by simp, by simp, by simp, by simp, by simp, by simp, by simp, by simp, by simp⟩

theorem put4 {B g : Nat} {w w1 : World} (h : Below B w w1) (hg : B ≤ g) (x y z q : Value) :
    Below B w ((((w1.setCell ⟨g, 0, none⟩ x).setCell ⟨g, 1, none⟩ y).setCell ⟨g, 2, none⟩ z).setCell ⟨g, 3, none⟩ q) :=
  (((h.setCell hg _).setCell hg _).setCell hg _).setCell hg _
theorem put4_cells {g : Nat} {w1 : World} (h : Slot4 g w1) (x y z q : Value) :
    ((((w1.setCell ⟨g, 0, none⟩ x).setCell ⟨g, 1, none⟩ y).setCell ⟨g, 2, none⟩ z).setCell ⟨g, 3, none⟩ q).cell? ⟨g, 0, none⟩ = some x ∧
    ((((w1.setCell ⟨g, 0, none⟩ x).setCell ⟨g, 1, none⟩ y).setCell ⟨g, 2, none⟩ z).setCell ⟨g, 3, none⟩ q).cell? ⟨g, 1, none⟩ = some y ∧
    ((((w1.setCell ⟨g, 0, none⟩ x).setCell ⟨g, 1, none⟩ y).setCell ⟨g, 2, none⟩ z).setCell ⟨g, 3, none⟩ q).cell? ⟨g, 2, none⟩ = some z ∧
    ((((w1.setCell ⟨g, 0, none⟩ x).setCell ⟨g, 1, none⟩ y).setCell ⟨g, 2, none⟩ z).setCell ⟨g, 3, none⟩ q).cell? ⟨g, 3, none⟩ = some q := by
  obtain ⟨h0, h1, h2, h3, h4, f0, f1, f2, f3⟩ := h
  refine ⟨?_, ?_, ?_, ?_⟩ <;> simp [go_sem, h1, h2, h3, h4]

theorem cut_bytes (s : ByteArray) (k n : Nat) : s.extract k (k + n) = ⟨((s.data.toList.drop k).take n).toArray⟩ := by
  have h := cut_list s k (k + n)
  rw [Nat.add_sub_cancel_left] at h
  rw [← h]

/-- what a function that reads one token hands back -/
def TokOut.ending (o : TokOut) : Ending := .returned (.tuple #[o.1.val, .int .i64 o.2.1, .int .i64 o.2.2])

set_option maxRecDepth 100000 in
theorem lsign_calls (s : ByteArray) (hs : s.size ≤ 1000000) (k : Nat) (hk : k < s.size) (w : World) (h0 : 0 < w.heap.size) (SG : Hid (Texts 0 sgnL w)) :
    Calls Tryd.prog 28 #[.string s, .int .i64 k] w fun e w' => e = TokOut.ending (sgnOut (s.data.toList.drop k) k) ∧ Below w.heap.size w w' := by
  have b0 := hid ((Below.refl w.heap.size w).alloc (Nat.le_refl _) (.cells #[.int .i64 0, .string ⟨#[]⟩, .int .i64 0, .int .i64 0] 41))
  have SG1 := hid (texts_on SG.out h0 b0.out)
  have S4 := hid (slot4_new w rfl 41)
  clear SG
  have hl : (signL (s.data.toList.drop k)).length ≤ 2 := by
    have : ∀ L : List (List UInt8), (∀ x ∈ L, x.length ≤ 2) → ∀ l, (firstOf L l).length ≤ 2 := by
      intro L
      induction L with
      | nil => intro _ l; simp [firstOf]
      | cons x L ih =>
        intro hx l
        unfold firstOf
        split
        · exact hx x (by simp)
        · exact ih (fun y hy => hx y (by simp [hy])) l
    exact this sgnL (by decide) _
  by_cases hz : signL (s.data.toList.drop k) = []
  · have H := hid (show sgnOut (s.data.toList.drop k) k = (Tok.zero, k, 11) by unfold sgnOut; rw [if_pos hz])
    have Hz := hid hz
    clear hz
    go_enter Tryd.func28, Tryd.ntmps28
    go_wp2_with fail
    refine (longest_calls _ _ SG1).mono ?_
    rintro e w1 ⟨rfl, hw⟩
    rw [hw] at b0 S4
    have ⟨g0, c0, c1, c2, c3, f0, f1, f2, f3⟩ := S4.out
    clear hw SG1
    rw [rest_list, Hz.out]
    go_wp2
    rw [H.out]
    exact bodyPost_ret (ret_t rfl rfl (put4_cells S4.out _ _ _ _)) rfl ⟨rfl, put4 b0.out (Nat.le_refl _) _ _ _ _⟩
  · have H := hid (show sgnOut (s.data.toList.drop k) k = (⟨5, ⟨(signL (s.data.toList.drop k)).toArray⟩, 0, k⟩, k + (signL (s.data.toList.drop k)).length, 0) by unfold sgnOut; rw [if_neg hz])
    have Hz : (signL (s.data.toList.drop k)).isEmpty = false := by
      cases hq : signL (s.data.toList.drop k) with
      | nil => exact absurd hq hz
      | cons => rfl
    clear hz
    go_enter Tryd.func28, Tryd.ntmps28
    go_wp2_with fail
    refine (longest_calls _ _ SG1).mono ?_
    rintro e w1 ⟨rfl, hw⟩
    rw [hw] at b0 S4
    have ⟨g0, c0, c1, c2, c3, f0, f1, f2, f3⟩ := S4.out
    clear hw SG1
    rw [rest_list]
    generalize signL (s.data.toList.drop k) = x at *
    go_wp2
    rw [H.out]
    exact bodyPost_ret (ret_t rfl rfl (put4_cells S4.out _ _ _ _)) rfl ⟨rfl, put4 b0.out (Nat.le_refl _) _ _ _ _⟩

end Go.Proofs.YtijbiedblahmhaaDoor
