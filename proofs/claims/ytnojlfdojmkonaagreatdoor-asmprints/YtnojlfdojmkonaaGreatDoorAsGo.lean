/- Go's library at lines, words and numbers. -/
import Derived.Test.YtnojlfdojmkonaaGreatDoorAsShelf
import Derived.Test.YtnojlfdojmkonaaGreatDoorAsW
import Derived.Test.YtnojlfdojmkonaaGreatDoorJoint5
namespace Go.Proofs.YtnojlfdojmkonaaGreatDoor
set_option linter.unusedSimpArgs false
set_option maxRecDepth 100000
open Go.RowKit

/-- what the library's own variables hold -/
structure LibW (B : Nat) (w : World) : Prop where
  le : B ≤ w.heap.size
  few : 8 ≤ B
  mx : ∃ m, w.cell? ⟨0, 0, none⟩ = some (.int .i64 m)
  sy : ∃ t p, w.cell? ⟨1, 0, none⟩ = some (.iface t p)
  rg : ∃ t p, w.cell? ⟨2, 0, none⟩ = some (.iface t p)
theorem LibW.on {B : Nat} {a c : World} (h : LibW B a) (q : Below B a c) : LibW B c := by
  have hf := h.few
  obtain ⟨m, hm⟩ := h.mx
  obtain ⟨t, p, hs⟩ := h.sy
  obtain ⟨t', p', hr⟩ := h.rg
  exact ⟨Nat.le_trans h.le q.size, hf, ⟨m, cellB q (show 0 < B by omega) hm⟩, ⟨t, p, cellB q (show 1 < B by omega) hs⟩, ⟨t', p', cellB q (show 2 < B by omega) hr⟩⟩
theorem drewN_below (n : Nat) (w : World) : Below w.heap.size w (w.drewN n) := ⟨rfl, rfl, rfl, Nat.le_refl _, fun _ _ => rfl⟩
/-- a line more -/
theorem cut_calls {B : Nat} (s : ByteArray) (w : World) (hL : LibW B w) (hs : s.size ≤ 1000000) :
    Calls Tryz.prog 23 #[.string s, .string ⟨#[10]⟩] w fun e w' => e = .returned (.tuple #[.string ⟨(Lib.cut s.data.toList [10]).1.toArray⟩, .string ⟨(Lib.cut s.data.toList [10]).2.1.toArray⟩, .bool (Lib.cut s.data.toList [10]).2.2]) ∧ Below w.heap.size w w' := by
  obtain ⟨m, hm⟩ := hL.mx
  refine (Any.strings_Cut lays145 s ⟨#[10]⟩ m w (by omega) hm).mono ?_
  rintro e w' ⟨rfl, n, rfl⟩
  exact ⟨rfl, drewN_below n w⟩
/-- words in a block of their own -/
def WordsIn (g : Nat) (w : World) (v : Value) (l : List UInt8) (ss : List ByteArray) : Prop :=
  ∃ cs, v = .slice (some ⟨g, 0, none⟩) ss.length cs.size ∧ Blk g 9 cs w ∧ ss.length ≤ cs.size ∧ (cs.size = 1 → l = []) ∧ ∀ (i : Nat) s, ss[i]? = some s → cs[i]? = some (.string s)
theorem WordsIn.on {g : Nat} {v : Value} {l : List UInt8} {ss : List ByteArray} {a c : World} (h : WordsIn g a v l ss) (q : Below a.heap.size a c) : WordsIn g c v l ss := by
  obtain ⟨cs, h1, h2, h3⟩ := h
  exact ⟨cs, h1, blk_on h2 q, h3⟩
theorem splitK_short {b : UInt8} : ∀ (k : Nat) (s x : List UInt8), x ∈ Lib.splitK [b] 0 k s → x.length ≤ s.length
  | 0, s, x, h => by
    rw [Lib.splitK, List.mem_singleton] at h
    rw [h]; exact Nat.le_refl _
  | k + 1, s, x, h => by
    rw [Lib.splitK] at h
    split at h
    · rw [List.mem_singleton.1 h]; exact Nat.le_refl _
    · rcases List.mem_cons.1 h with rfl | h
      · rw [List.length_take]; omega
      · have := splitK_short k _ x h
        rw [List.length_drop] at this
        omega
theorem words_short {s x : List UInt8} (h : x ∈ wordsL s) : x.length ≤ s.length := splitK_short _ s x h
theorem words_calls {B : Nat} (s : ByteArray) (w : World) (hL : LibW B w) (hs : s.size ≤ 1000000) :
    Calls Tryz.prog 57 #[.string s] w fun e w' => ∃ v ss, e = .returned v ∧ ss.map (·.data.toList) = wordsL s.data.toList ∧ WordsIn w.heap.size w' v s.data.toList ss ∧ Below w.heap.size w w' := by
  obtain ⟨m, hm⟩ := hL.mx
  have hz : s.size = s.data.toList.length := Lib.size_eq s
  have SP := hid (Any.strings_SplitN lays147 (by kernel_rfl) s ⟨#[32]⟩ 6 m w (by omega) hm (by decide) (by decide) (by decide))
  have hd : (Lib.splitB ⟨#[32]⟩ 0 (min 6 (s.size + 1) - 1) s).map (·.data.toList) = wordsL s.data.toList := by
    rw [Lib.splitB_data, hz]
    rfl
  have hlen := Lib.splitB_length_le ⟨#[32]⟩ 0 (min 6 (s.size + 1) - 1) s
  have hlen2 : (Lib.splitB ⟨#[32]⟩ 0 (min 6 (s.size + 1) - 1) s).length ≤ min 6 (s.size + 1) := by omega
  have HD := hid hd
  have HL2 := hid hlen2
  have HN := hid (show min 6 (s.size + 1) = 1 → s.data.toList = [] from fun h => List.length_eq_zero_iff.1 (by omega))
  clear hd hlen hlen2 hz hm hL
  generalize Lib.splitB ⟨#[32]⟩ 0 (min 6 (s.size + 1) - 1) s = ss at *
  generalize min 6 (s.size + 1) = N at *
  go_enter Tryz.func57, Tryz.ntmps57
  go_wp2_with fail
  refine SP.out.mono ?_
  rintro e w2 ⟨rfl, rfl⟩
  go_wp2_with fail
  go_ret
  refine ⟨_, ss, rfl, HD.out, ⟨Lib.cellsOf ss N, by rw [Lib.cellsOf_size HL2.out]; rfl, blk_new w _ _, by rw [Lib.cellsOf_size HL2.out]; exact HL2.out, by rw [Lib.cellsOf_size HL2.out]; exact HN.out, fun i x hx => ?_⟩, box_below w _⟩
  unfold Lib.cellsOf
  rw [List.getElem?_toArray, List.getElem?_append_left (by rw [List.length_map]; exact (List.getElem?_eq_some_iff.1 hx).1), List.getElem?_map, hx]
  rfl
theorem bytesW_below (w : World) (T : TypeId) (t : ByteArray) : Below w.heap.size w (Lib.bytesWorld w T t) := Lib.bytesWorld_below _ _ _
theorem atoi_calls {B : Nat} (s : ByteArray) (w : World) (hL : LibW B w) (hs : s.size ≤ 1000000) :
    Calls Tryz.prog 90 #[.string s] w fun e w' => (∃ n v, e = .returned (.tuple #[.int .i64 n, v]) ∧ ((Lib.atoiAll s.data.toList = .ok n ∧ v = .nilIface) ∨ ((∀ n, Lib.atoiAll s.data.toList ≠ .ok n) ∧ ∃ t p, v = .iface t p))) ∧ Below w.heap.size w w' := by
  rcases h : Lib.atoiAll s.data.toList with n | _ | _
  · refine (Any.strconv_Atoi_ok lays172 s (by omega) n h w).mono ?_
    rintro e w' ⟨rfl, hw⟩
    refine ⟨⟨n, _, rfl, .inl ⟨rfl, rfl⟩⟩, ?_⟩
    rcases hw with rfl | ⟨t, rfl⟩
    · exact Below.refl _ _
    · exact bytesW_below _ _ _
  · obtain ⟨t, p, hv⟩ := hL.sy
    refine (Any.strconv_Atoi_syntax lays172 s (by omega) h _ w hv (.inr ⟨t, p, rfl⟩)).mono ?_
    rintro e w' ⟨N, rfl, _, _, hb⟩
    exact ⟨⟨_, _, rfl, .inr ⟨fun n h' => (nomatch h'), _, _, rfl⟩⟩, hb⟩
  · obtain ⟨t, p, hv⟩ := hL.rg
    refine (Any.strconv_Atoi_range lays172 s (by omega) h _ w hv (.inr ⟨t, p, rfl⟩)).mono ?_
    rintro e w' ⟨N, rfl, _, _, hb⟩
    exact ⟨⟨_, _, rfl, .inr ⟨fun n h' => (nomatch h'), _, _, rfl⟩⟩, hb⟩
/-- a number, or none -/
def NumR (o : Option Int) (e : Ending) : Prop := ∃ n b, e = .returned (.tuple #[.int .i64 n, .bool b]) ∧ ((b = true ∧ o = some n) ∨ (b = false ∧ o = none))
set_option maxHeartbeats 1600000 in
theorem anumber_calls {B : Nat} (s : ByteArray) (w : World) (hL : LibW B w) (hs : s.size ≤ 1000000) :
    Calls Tryz.prog 78 #[.string s] w fun e w' => NumR (numP s.data.toList) e ∧ Below w.heap.size w w' := by
  have AT := hid (atoi_calls s w hL hs)
  clear hL
  go_enter Tryz.func78, Tryz.ntmps78
  go_wp2_with fail
  refine AT.out.mono ?_
  rintro e w2 ⟨⟨n, v, rfl, hv⟩, b2⟩
  have B2 := hid b2
  clear b2
  rcases hv with ⟨hok, rfl⟩ | ⟨hno, t, p, rfl⟩
  · have hbd := Lib.atoiAll_bounds hok
    by_cases h1 : n < -4611686018427387904
    · have H := hid (show numP s.data.toList = none from num_atoi_no fun m hm hr _ => by
        rw [hok] at hm; injection hm with hm; subst hm; unfold rngP at hr; omega)
      have d1 : decide (n < -4611686018427387904) = true := decide_eq_true h1
      clear hok
      go_wp2_with fail
      go_ret2
      exact ⟨⟨_, _, rfl, .inr ⟨rfl, H.out⟩⟩, B2.out⟩
    · have d1 : decide (n < -4611686018427387904) = false := decide_eq_false h1
      by_cases h2 : n > 4611686018427387903
      · have H := hid (show numP s.data.toList = none from num_atoi_no fun m hm hr _ => by
          rw [hok] at hm; injection hm with hm; subst hm; unfold rngP at hr; omega)
        have d2 : decide (n > 4611686018427387903) = true := decide_eq_true h2
        clear hok
        go_wp2_with fail
        go_ret2
        exact ⟨⟨_, _, rfl, .inr ⟨rfl, H.out⟩⟩, B2.out⟩
      · have d2 : decide (n > 4611686018427387903) = false := decide_eq_false h2
        have hr : rngP n := by unfold rngP; omega
        have HOK := hid hok
        have HR := hid hr
        clear hok hr
        go_wp2_with fail
        refine (digits_calls n hbd.1 hbd.2 _).mono ?_
        rintro e w3 ⟨rfl, b3⟩
        have B3 := hid (B2.out.trans (b3.mono B2.out.size))
        clear b3
        by_cases hd : digs n = s.data.toList
        · have H := hid (num_atoi_ok HOK.out HR.out hd)
          have hq : (digs n == s.toList) = true := by
            rw [Lib.toList_data]; simp [hd]
          clear hd
          go_wp2_with fail
          go_ret2
          exact ⟨⟨_, _, rfl, .inl ⟨rfl, H.out⟩⟩, B3.out⟩
        · have H := hid (show numP s.data.toList = none from num_atoi_no fun m hm _ hd' => by
            rw [HOK.out] at hm; injection hm with hm; subst hm; exact hd hd')
          have hq : (digs n == s.toList) = false := by
            rw [Lib.toList_data]; simpa using hd
          clear hd
          go_wp2_with fail
          go_ret2
          exact ⟨⟨_, _, rfl, .inr ⟨rfl, H.out⟩⟩, B3.out⟩
  · have H := hid (show numP s.data.toList = none from num_atoi_no fun m hm _ _ => absurd hm (hno m))
    clear hno
    go_wp2_with fail
    go_ret2
    exact ⟨⟨_, _, rfl, .inr ⟨rfl, H.out⟩⟩, B2.out⟩

end Go.Proofs.YtnojlfdojmkonaaGreatDoor
