/- Heaps that are not there, and such as no call made. -/
import Derived.Test.YtoajmflbmfnieaaGreatHpRead
import Derived.Test.YtoajmflbmfnieaaGreatBld
namespace Go.Proofs.YtoajmflbmfnieaaGreat
set_option linter.unusedSimpArgs false
set_option maxRecDepth 100000
open Go.RowKit

def NoHp (v : Value) (w : World) : Prop := v = .pointer none ∨ ∃ d, v = .pointer (some ⟨d, 0, none⟩) ∧ d < w.heap.size ∧ w.cell? ⟨d, 0, none⟩ = some (.pointer none)
theorem noHp_on {v : Value} {a c : World} (h : NoHp v a) (k : Below a.heap.size a c) : NoHp v c := by
  rcases h with h | ⟨d, h1, h2, h3⟩
  · exact .inl h
  · exact .inr ⟨d, h1, Nat.lt_of_lt_of_le h2 k.size, cell_on h3 h2 k⟩
theorem noHp_shape {v : Value} {w : World} (h : NoHp v w) : ∃ a, v = .pointer a := by
  rcases h with h | ⟨d, h, _⟩
  · exact ⟨_, h⟩
  · exact ⟨_, h⟩
theorem made_no {v : Value} (w : World) (h : NoHp v w) : Calls Tryz.prog 51 #[v] w fun e w' => e = .returned (.bool false) ∧ w' = w := by
  rcases h with rfl | ⟨d, rfl, hd, hc⟩
  · go_enter Tryz.func51, Tryz.ntmps51
    go_wp2_with fail
    go_ret
    exact ⟨rfl, rfl⟩
  · go_enter Tryz.func51, Tryz.ntmps51
    go_wp2_with fail
    go_ret
    exact ⟨rfl, rfl⟩
theorem len_no {v : Value} (w : World) (h : NoHp v w) : Calls Tryz.prog 14 #[v] w fun e w' => e = .returned (.int .i64 0) ∧ w' = w := by
  have H0 := hid (made_no w h)
  obtain ⟨a, rfl⟩ := noHp_shape h
  clear h
  go_enter Tryz.func14, Tryz.ntmps14
  go_wp2_with fail
  refine H0.out.mono ?_
  rintro e0 w0 ⟨rfl, rfl⟩
  go_wp2_with fail
  go_ret
  exact ⟨rfl, rfl⟩
theorem at_no {v : Value} (w : World) (h : NoHp v w) (o : Int) : Calls Tryz.prog 53 #[v, .int .i64 o] w fun e w' => e = .returned (.pointer none) ∧ w' = w := by
  have H0 := hid (len_no w h)
  obtain ⟨a, rfl⟩ := noHp_shape h
  clear h
  by_cases h1 : o < 1
  · go_enter Tryz.func53, Tryz.ntmps53
    go_wp2_with fail
    go_ret
    exact ⟨rfl, rfl⟩
  · have h2 : 0 < o := by omega
    go_enter Tryz.func53, Tryz.ntmps53
    go_wp2_with fail
    refine H0.out.mono ?_
    rintro e1 w1 ⟨rfl, rfl⟩
    go_wp2_with fail
    go_ret
    exact ⟨rfl, rfl⟩
theorem slots_no {v : Value} (w : World) (h : NoHp v w) (o : Int) : Calls Tryz.prog 52 #[v, .int .i64 o] w fun e w' => e = .returned (.pointer none) ∧ w' = w := by
  have H0 := hid (at_no w h o)
  obtain ⟨a, rfl⟩ := noHp_shape h
  clear h
  go_enter Tryz.func52, Tryz.ntmps52
  go_wp2_with fail
  refine H0.out.mono ?_
  rintro e0 w0 ⟨rfl, rfl⟩
  go_wp2_with fail
  go_ret
  exact ⟨rfl, rfl⟩
theorem make_no {v : Value} (w : World) (h : NoHp v w) : Calls Tryz.prog 23 #[v] w fun e w' => e = .returned (.tuple #[.int .i64 0, .int .i64 1]) ∧ w' = w := by
  have H0 := hid (made_no w h)
  obtain ⟨a, rfl⟩ := noHp_shape h
  clear h
  go_enter Tryz.func23, Tryz.ntmps23
  go_wp2_with fail
  refine H0.out.mono ?_
  rintro e0 w0 ⟨rfl, rfl⟩
  go_wp2_with fail
  go_ret2
  exact ⟨rfl, rfl⟩
theorem hproto_no {v : Value} (w : World) (h : NoHp v w) (o : Int) : Calls Tryz.prog 21 #[v, .int .i64 o] w fun e w' => e = .returned (.int .i64 0) ∧ w' = w := by
  have H0 := hid (at_no w h o)
  obtain ⟨a, rfl⟩ := noHp_shape h
  clear h
  go_enter Tryz.func21, Tryz.ntmps21
  go_wp2_with fail
  refine H0.out.mono ?_
  rintro e0 w0 ⟨rfl, rfl⟩
  go_wp2_with fail
  go_ret
  exact ⟨rfl, rfl⟩
theorem hcount_no {v : Value} (w : World) (h : NoHp v w) (o : Int) : Calls Tryz.prog 16 #[v, .int .i64 o] w fun e w' => e = .returned (.int .i64 0) ∧ w' = w := by
  have H0 := hid (at_no w h o)
  obtain ⟨a, rfl⟩ := noHp_shape h
  clear h
  go_enter Tryz.func16, Tryz.ntmps16
  go_wp2_with fail
  refine H0.out.mono ?_
  rintro e0 w0 ⟨rfl, rfl⟩
  go_wp2_with fail
  go_ret
  exact ⟨rfl, rfl⟩
theorem hepoch_no {v : Value} (w : World) (h : NoHp v w) (o : Int) : Calls Tryz.prog 27 #[v, .int .i64 o] w fun e w' => e = .returned (.int .i64 0) ∧ w' = w := by
  have H0 := hid (at_no w h o)
  obtain ⟨a, rfl⟩ := noHp_shape h
  clear h
  go_enter Tryz.func27, Tryz.ntmps27
  go_wp2_with fail
  refine H0.out.mono ?_
  rintro e0 w0 ⟨rfl, rfl⟩
  go_wp2_with fail
  go_ret
  exact ⟨rfl, rfl⟩
theorem hshape_no {v : Value} (w : World) (h : NoHp v w) (o : Int) : Calls Tryz.prog 15 #[v, .int .i64 o] w fun e w' => e = .returned (.int .i64 0) ∧ w' = w := by
  have H0 := hid (slots_no w h o)
  obtain ⟨a, rfl⟩ := noHp_shape h
  clear h
  go_enter Tryz.func15, Tryz.ntmps15
  go_wp2_with fail
  refine H0.out.mono ?_
  rintro e0 w0 ⟨rfl, rfl⟩
  go_wp2_with fail
  go_ret
  exact ⟨rfl, rfl⟩
theorem hkey_no {v : Value} (w : World) (h : NoHp v w) (o j : Int) : Calls Tryz.prog 17 #[v, .int .i64 o, .int .i64 j] w fun e w' => e = .returned (.tuple #[.string ⟨#[]⟩, .bool false]) ∧ w' = w := by
  have H0 := hid (at_no w h o)
  obtain ⟨a, rfl⟩ := noHp_shape h
  clear h
  go_enter Tryz.func17, Tryz.ntmps17
  go_wp2_with fail
  refine H0.out.mono ?_
  rintro e0 w0 ⟨rfl, rfl⟩
  go_wp2_with fail
  go_ret2
  exact ⟨rfl, rfl⟩
theorem hslotof_no {v : Value} (w : World) (h : NoHp v w) (o : Int) (s : ByteArray) : Calls Tryz.prog 20 #[v, .int .i64 o, .string s] w fun e w' => e = .returned (.int .i64 (-1)) ∧ w' = w := by
  have H0 := hid (made_no w h)
  obtain ⟨a, rfl⟩ := noHp_shape h
  clear h
  go_enter Tryz.func20, Tryz.ntmps20
  go_wp2_with fail
  refine H0.out.mono ?_
  rintro e0 w0 ⟨rfl, rfl⟩
  go_wp2_with fail
  go_ret
  exact ⟨rfl, rfl⟩
theorem hnext_no {v : Value} (w : World) (h : NoHp v w) (o : Int) (s : ByteArray) : Calls Tryz.prog 28 #[v, .int .i64 o, .string s] w fun e w' => e = .returned (.int .i64 0) ∧ w' = w := by
  have H0 := hid (made_no w h)
  obtain ⟨a, rfl⟩ := noHp_shape h
  clear h
  go_enter Tryz.func28, Tryz.ntmps28
  go_wp2_with fail
  refine H0.out.mono ?_
  rintro e0 w0 ⟨rfl, rfl⟩
  go_wp2_with fail
  go_ret
  exact ⟨rfl, rfl⟩
theorem hsetproto_no {v : Value} (w : World) (h : NoHp v w) (o p : Int) : Calls Tryz.prog 26 #[v, .int .i64 o, .int .i64 p] w fun e w' => e = .returned (.int .i64 1) ∧ w' = w := by
  have H0 := hid (made_no w h)
  obtain ⟨a, rfl⟩ := noHp_shape h
  clear h
  go_enter Tryz.func26, Tryz.ntmps26
  go_wp2_with fail
  refine H0.out.mono ?_
  rintro e0 w0 ⟨rfl, rfl⟩
  go_wp2_with fail
  go_ret
  exact ⟨rfl, rfl⟩
theorem hset_no {v : Value} (w : World) (h : NoHp v w) (o : Int) (s : ByteArray) (u : Vl) : Calls Tryz.prog 24 #[v, .int .i64 o, .string s, vlV u] w fun e w' => e = .returned (.int .i64 1) ∧ Below w.heap.size w w' := by
  have A := (Below.refl w.heap.size w).alloc (Nat.le_refl _) (Obj.cells #[.int .i64 u.1, .int .i64 u.2.1, .string u.2.2] 26)
  have HA := hid A
  replace h := noHp_on h A
  unfold vlV
  have H0 := hid (made_no _ h)
  obtain ⟨a, rfl⟩ := noHp_shape h
  clear h A
  go_enter Tryz.func24, Tryz.ntmps24
  go_wp2_with fail
  refine H0.out.mono ?_
  rintro e0 w0 ⟨rfl, rfl⟩
  go_wp2_with fail
  go_ret
  exact ⟨rfl, HA.out⟩
theorem hgrow_no {v : Value} (w : World) (h : NoHp v w) (o p : Int) (u : Vl) : Calls Tryz.prog 30 #[v, .int .i64 o, .int .i64 p, vlV u] w fun e w' => e = .returned (.int .i64 1) ∧ Below w.heap.size w w' := by
  have A := (Below.refl w.heap.size w).alloc (Nat.le_refl _) (Obj.cells #[.int .i64 u.1, .int .i64 u.2.1, .string u.2.2] 26)
  have HA := hid A
  replace h := noHp_on h A
  unfold vlV
  have H0 := hid (made_no _ h)
  obtain ⟨a, rfl⟩ := noHp_shape h
  clear h A
  go_enter Tryz.func30, Tryz.ntmps30
  go_wp2_with fail
  refine H0.out.mono ?_
  rintro e0 w0 ⟨rfl, rfl⟩
  go_wp2_with fail
  go_ret
  exact ⟨rfl, HA.out⟩
theorem hput_no {v : Value} (w : World) (h : NoHp v w) (o j : Int) (u : Vl) : Calls Tryz.prog 29 #[v, .int .i64 o, .int .i64 j, vlV u] w fun e w' => e = .returned (.bool false) ∧ Below w.heap.size w w' := by
  have A := (Below.refl w.heap.size w).alloc (Nat.le_refl _) (Obj.cells #[.int .i64 u.1, .int .i64 u.2.1, .string u.2.2] 26)
  have HA := hid A
  replace h := noHp_on h A
  unfold vlV
  have H0 := hid (slots_no _ h o)
  obtain ⟨a, rfl⟩ := noHp_shape h
  clear h A
  go_enter Tryz.func29, Tryz.ntmps29
  go_wp2_with fail
  refine H0.out.mono ?_
  rintro e0 w0 ⟨rfl, rfl⟩
  go_wp2_with fail
  go_ret
  exact ⟨rfl, HA.out⟩
theorem hown_no {v : Value} (w : World) (h : NoHp v w) (o : Int) (s : ByteArray) : Calls Tryz.prog 19 #[v, .int .i64 o, .string s] w fun e w' => e = .returned (.tuple #[.agg #[.int .i64 0, .int .i64 0, .string ⟨#[]⟩], .bool false]) ∧ Below w.heap.size w w' := by
  have A := (Below.refl w.heap.size w).alloc (Nat.le_refl _) (Obj.cells #[.int .i64 0, .int .i64 0, .string ⟨#[]⟩] 26)
  have HA := hid A
  replace h := noHp_on h A
  have H0 := hid (at_no _ h o)
  obtain ⟨a, rfl⟩ := noHp_shape h
  clear h A
  go_enter Tryz.func19, Tryz.ntmps19
  go_wp2_with fail
  refine H0.out.mono ?_
  rintro e0 w0 ⟨rfl, rfl⟩
  go_wp2_with fail
  exact bodyPost_ret (ret_ve rfl rfl ⟨by simp, by simp, by simp⟩) rfl ⟨rfl, HA.out⟩
theorem hslot_no {v : Value} (w : World) (h : NoHp v w) (o j : Int) : Calls Tryz.prog 18 #[v, .int .i64 o, .int .i64 j] w fun e w' => e = .returned (.tuple #[.agg #[.int .i64 0, .int .i64 0, .string ⟨#[]⟩], .bool false]) ∧ Below w.heap.size w w' := by
  have A := (Below.refl w.heap.size w).alloc (Nat.le_refl _) (Obj.cells #[.int .i64 0, .int .i64 0, .string ⟨#[]⟩] 26)
  have HA := hid A
  replace h := noHp_on h A
  have H0 := hid (slots_no _ h o)
  obtain ⟨a, rfl⟩ := noHp_shape h
  clear h A
  go_enter Tryz.func18, Tryz.ntmps18
  go_wp2_with fail
  refine H0.out.mono ?_
  rintro e0 w0 ⟨rfl, rfl⟩
  go_wp2_with fail
  exact bodyPost_ret (ret_ve rfl rfl ⟨by simp, by simp, by simp⟩) rfl ⟨rfl, HA.out⟩
theorem hdel_no {v : Value} (w : World) (h : NoHp v w) (o : Int) (s : ByteArray) : Calls Tryz.prog 25 #[v, .int .i64 o, .string s] w fun e w' => e = .returned (.bool false) ∧ Below w.heap.size w w' := by
  have H0 := hid (hown_no w h o s)
  obtain ⟨a, rfl⟩ := noHp_shape h
  clear h
  go_enter Tryz.func25, Tryz.ntmps25
  go_wp2_with fail
  refine H0.out.mono ?_
  rintro e1 w1 ⟨rfl, b1⟩
  have B2 := hid (below_on b1 ((Below.refl w1.heap.size w1).alloc (Nat.le_refl _) (Obj.cells #[.int .i64 0, .int .i64 0, .string ⟨#[]⟩] 26)))
  clear b1
  go_wp2_with fail
  go_ret
  exact ⟨rfl, B2.out⟩
set_option maxHeartbeats 2000000 in
theorem hget_no {v : Value} (w : World) (h : NoHp v w) (o : Int) (s : ByteArray) : Calls Tryz.prog 22 #[v, .int .i64 o, .string s] w fun e w' => e = .returned (.agg #[.int .i64 0, .int .i64 0, .string ⟨#[]⟩]) ∧ Below w.heap.size w w' := by
  have HP := hid h
  have SL := hid (slot_new w rfl 26)
  have L0 := hid ((Below.refl w.heap.size w).alloc (Nat.le_refl _) (Obj.cells #[.int .i64 0, .int .i64 0, .string ⟨#[]⟩] 26))
  obtain ⟨a, rfl⟩ := noHp_shape h
  clear h
  go_enter Tryz.func22, Tryz.ntmps22
  go_wp2_with fail
  go_loopw [1] (fun a wr => ∃ o' : Int, a = .int .i64 o' ∧ Hid (Below w.heap.size w wr) ∧ Hid (Slot w.heap.size wr)) (fun a _ => if 0 < intOf a then 1 else 0)
  case atStart => exact ⟨o, rfl, L0, SL⟩
  case round =>
    obtain ⟨o', rfl, hB, hSl⟩ := hrel
    by_cases ho : 0 < o'
    · have HO := hid (hown_no wr (noHp_on HP.out hB.out) o' s)
      go_wp2_with fail
      refine HO.out.mono ?_
      rintro e2 w2 ⟨rfl, b2⟩
      have a2 := (Below.refl w2.heap.size w2).alloc (Nat.le_refl _) (Obj.cells #[.int .i64 0, .int .i64 0, .string ⟨#[]⟩] 26)
      have HS2 := hid (slot_on (slot_on hSl.out b2) a2)
      have HB := hid (below_in (below_in hB.out (Nat.le_refl _) b2) (Nat.le_refl _) a2)
      have HPr := hid (hproto_no _ (noHp_on HP.out HB.out) o')
      clear b2 hSl hB HO a2
      go_wp2_with fail
      refine HPr.out.mono ?_
      rintro e3 w3 ⟨rfl, rfl⟩
      go_wp2_with fail
      exact ⟨⟨0, rfl, HB, HS2⟩, by simp [intOf, ho]⟩
    · obtain ⟨g0, g1, g2, g3, g4, g5, g6⟩ := hSl.out
      go_wp2_with fail
      exact bodyPost_ret (ret_v rfl rfl (put3_cells hSl.out _ _ _)) rfl ⟨rfl, put3 hB.out (Nat.le_refl _) _ _ _⟩
theorem hdump_no {v : Value} (w : World) (h : NoHp v w) : Calls Tryz.prog 31 #[v] w fun e w' => e = .returned (.string ⟨#[]⟩) ∧ Below w.heap.size w w' := by
  have A := (Below.refl w.heap.size w).alloc (Nat.le_refl _) (Obj.cells #[.pointer none, .slice none 0 0] 117)
  have HA := hid A
  have HB := hid (string_calls 117 [] w.heap.size w.heap.size [] _ (has_new 117 [] w _ rfl))
  replace h := noHp_on h A
  have H0 := hid (len_no _ h)
  obtain ⟨a, rfl⟩ := noHp_shape h
  clear h A
  go_enter Tryz.func31, Tryz.ntmps31
  go_wp2_with fail
  go_loopw [4] (fun a wr => a = .int .i64 1 ∧ wr = w.alloc (Obj.cells #[.pointer none, .slice none 0 0] 117)) (fun _ _ => 0)
  case atStart => exact ⟨rfl, rfl⟩
  case round =>
    obtain ⟨rfl, rfl⟩ := hrel
    go_wp2_with fail
    refine H0.out.mono ?_
    rintro e1 w1 ⟨rfl, rfl⟩
    go_wp2_with fail
    refine HB.out.mono ?_
    rintro e2 w2 ⟨rfl, b2, _⟩
    have B2 := hid (HA.out.trans b2)
    clear b2
    go_wp2_with fail
    go_ret
    exact ⟨rfl, B2.out⟩

end Go.Proofs.YtoajmflbmfnieaaGreat
