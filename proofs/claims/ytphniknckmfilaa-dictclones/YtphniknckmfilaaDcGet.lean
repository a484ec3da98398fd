/- What a dict has at a name, and how many. -/
import Derived.Test.YtphniknckmfilaaDcNew
import Derived.Test.YtphniknckmfilaaRet
namespace Go.Proofs.Ytphniknckmfilaa
set_option linter.unusedSimpArgs false
open Go.RowKit

def vlV (v : Vl) : Value := .agg #[.int .i64 v.1, .int .i64 v.2.1, .string v.2.2]
/-- a place's cells -/
theorem PlAt.place {p m i : Nat} {v : Value} {L : Pls} {o : Option Ent} {w : World} (h : PlAt p v m L w) (hi : L[i]? = some o) :
    ∃ g cap, v = .slice (some ⟨g, 0, none⟩) L.length cap ∧ g < w.heap.size ∧ (∀ j, j < 5 → w.cell? ⟨g, i * 5 + j, none⟩ = (cellsO o)[j]?) ∧ ∀ j, w.frozen? ⟨g, j, none⟩ = false := by
  have hl : i < L.length := (List.getElem?_eq_some_iff.1 hi).1
  obtain ⟨g, cap, rfl, _, hg⟩ := h.row.form (by omega)
  refine ⟨g, cap, rfl, hg, fun j hj => ?_, fun j => row_free h.row j⟩
  have e := cellsP_at hi hj
  have hj' : j < (cellsO o).length := by rw [cellsO_len]; exact hj
  rw [List.getElem?_eq_getElem hj'] at e ⊢
  exact row_cell h.row e

theorem value_has {p m i : Nat} {v : Value} {L : Pls} (w : World) (h : PlAt p v m L w) (s : ByteArray) (hs : s.size ≤ 1000000) (hp : posL L s = some i) :
    Calls Try.prog 29 #[.pointer (some ⟨p, 0, none⟩), .string s] w fun e w' => e = .returned (.tuple #[vlV (gotV (live L) s), .bool true]) ∧ Below w.heap.size w w' := by
  obtain ⟨u, hu, hlk⟩ := posL_at hp
  have hg : gotV (live L) s = u := by unfold gotV; rw [hlk]; rfl
  rw [hg]
  have hil := posL_lt hp
  obtain ⟨g, cap, rfl, hgs, hc, _⟩ := h.place hu
  obtain ⟨d0, d1⟩ := h.cells
  have H := hid h
  have hsl : s.size ≤ maxLen := by unfold maxLen; omega
  have hpm := h.lt (.inl rfl)
  have hF : posF L s = some (i : Int) := by unfold posF; rw [hp]; rfl
  have A := (Below.refl w.heap.size w).alloc (Nat.le_refl _) (Obj.cells #[.int .i64 0, .int .i64 0, .string ⟨#[]⟩] 32)
  have HM := hid (h.on A).map
  have HA := hid A
  have v2 : w.cell? ⟨g, i * 5 + 2, none⟩ = some (.int .i64 u.1) := hc 2 (by omega)
  have v3 : w.cell? ⟨g, i * 5 + 2 + 1, none⟩ = some (.int .i64 u.2.1) := hc 3 (by omega)
  have v4 : w.cell? ⟨g, i * 5 + 2 + 2, none⟩ = some (.string u.2.2) := hc 4 (by omega)
  have SL := hid (slot_new w rfl 32)
  clear h hg A hc hlk hu
  go_enter Try.func29, Try.ntmps29
  go_wp2_with (first | (at_lookup; refine wp_mlook rfl _ _ rfl m _ _ s rfl HM.out rfl hsl ?_; rw [hF]) | fail)
  exact bodyPost_ret (ret_ve rfl rfl ⟨by simp, by simp, by simp⟩) rfl ⟨rfl, (Below.refl _ _).alloc (Nat.le_refl _) _⟩
theorem value_none {p m : Nat} {v : Value} {L : Pls} (w : World) (h : PlAt p v m L w) (s : ByteArray) (hs : s.size ≤ 1000000) (hp : posL L s = none) :
    Calls Try.prog 29 #[.pointer (some ⟨p, 0, none⟩), .string s] w fun e w' => e = .returned (.tuple #[vlV vl0, .bool false]) ∧ Below w.heap.size w w' := by
  obtain ⟨d0, d1⟩ := h.cells
  have hsl : s.size ≤ maxLen := by unfold maxLen; omega
  have hpm := h.lt (.inl rfl)
  have hF : posF L s = none := by unfold posF; rw [hp]; rfl
  have A := (Below.refl w.heap.size w).alloc (Nat.le_refl _) (Obj.cells #[.int .i64 0, .int .i64 0, .string ⟨#[]⟩] 32)
  have HM := hid (h.on A).map
  clear h A
  go_enter Try.func29, Try.ntmps29
  go_wp2_with (first | (at_lookup; refine wp_mlook rfl _ _ rfl m _ _ s rfl HM.out rfl hsl ?_; rw [hF]) | fail)
  exact bodyPost_ret (ret_ve rfl rfl ⟨by simp [vl0], by simp [vl0], by simp [vl0]⟩) rfl ⟨rfl, (Below.refl _ _).alloc (Nat.le_refl _) _⟩
theorem value_calls {p m : Nat} {v : Value} {L : Pls} (w : World) (h : PlAt p v m L w) (s : ByteArray) (hs : s.size ≤ 1000000) :
    Calls Try.prog 29 #[.pointer (some ⟨p, 0, none⟩), .string s] w fun e w' => e = .returned (.tuple #[vlV (gotV (live L) s), .bool (hasL (live L) s)]) ∧ Below w.heap.size w w' := by
  cases hp : posL L s with
  | some i =>
    have : hasL (live L) s = true := by rw [← posL_has, hp]; rfl
    rw [this]; exact value_has w h s hs hp
  | none =>
    have : hasL (live L) s = false := by rw [← posL_has, hp]; rfl
    rw [this, show gotV (live L) s = vl0 from by unfold gotV; rw [posL_none hp]; rfl]; exact value_none w h s hs hp
theorem get_calls {S : Nat → Prop} {d n : Nat} {l : List Ent} (w : World) (h : DcS S d n l w) (s : ByteArray) (hs : s.size ≤ 1000000) :
    Calls Try.prog 16 #[.pointer (some ⟨d, 0, none⟩), .string s] w fun e w' => e = .returned (.tuple #[vlV (gotV l s), .bool (hasL l s)]) ∧ Below w.heap.size w w' := by
  have A := (Below.refl w.heap.size w).alloc (Nat.le_refl _) (Obj.cells #[.int .i64 0, .int .i64 0, .string ⟨#[]⟩] 32)
  have HD := hid (h.on A)
  obtain ⟨p, v, m, L, h1, h2, rfl, h4, h5, h6⟩ := h
  have c0 : w.cell? ⟨d, 0, none⟩ = some (.pointer (some ⟨p, 0, none⟩)) := by rw [blk_cell h1]; rfl
  have hd := blk_lt h1
  have HP := hid (h2.on A)
  have hS := hid (slot_new w rfl 32)
  have HA := hid A
  have HV := hid (value_calls _ HP.out s hs)
  unfold vlV at HV ⊢
  clear h1 h2 A h5 h6
  go_enter Try.func16, Try.ntmps16
  go_wp2_with fail
  refine (made_calls _ HD.out).mono ?_
  rintro e1 w1 ⟨rfl, rfl⟩
  go_wp2_with fail
  refine HV.out.mono ?_
  rintro e2 w2 ⟨rfl, b2⟩
  have HS2 := hid (slot_on hS.out b2)
  have HB := hid (below_on HA.out b2)
  clear b2 hS HA HV HD HP
  obtain ⟨g0, g1, g2, g3, g4, g5, g6⟩ := HS2.out
  go_wp2_with fail
  exact bodyPost_ret (ret_ve rfl rfl (put3_cells HS2.out _ _ _)) rfl ⟨rfl, put3 HB.out (by simp) _ _ _⟩
theorem len_calls {S : Nat → Prop} {d n : Nat} {l : List Ent} (w : World) (h : DcS S d n l w) :
    Calls Try.prog 13 #[.pointer (some ⟨d, 0, none⟩)] w fun e w' => e = .returned (.int .i64 (l.length : Int)) ∧ w' = w := by
  have HD := hid h
  obtain ⟨p, v, m, L, h1, h2, rfl, h4, h5, h6⟩ := h
  have c0 : w.cell? ⟨d, 0, none⟩ = some (.pointer (some ⟨p, 0, none⟩)) := by rw [blk_cell h1]; rfl
  have HP := hid h2
  clear h1 h2 h5 h6
  go_enter Try.func13, Try.ntmps13
  go_wp2_with fail
  refine (made_calls _ HD.out).mono ?_
  rintro e1 w1 ⟨rfl, rfl⟩
  go_wp2_with fail
  refine (count_calls _ HP.out).mono ?_
  rintro e1 w1 ⟨rfl, rfl⟩
  go_wp2_with fail
  go_ret
  exact ⟨rfl, rfl⟩

end Go.Proofs.Ytphniknckmfilaa
