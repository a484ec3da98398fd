/- Numbers into places; names found; a line's beginning. -/
import Derived.Test.YtnojlfdojmkonaaGreatDoorAsGo
namespace Go.Proofs.YtnojlfdojmkonaaGreatDoor
set_option linter.unusedSimpArgs false
set_option maxRecDepth 100000
open Go.RowKit

/-- numbers put at places -/
def setM : Array Value → List Nat → List Int → Array Value
  | cs, o :: os, n :: ns => setM (cs.setIfInBounds o (.int .i64 n)) os ns
  | cs, _, _ => cs
theorem setM_size : ∀ (os : List Nat) (ns : List Int) (cs : Array Value), (setM cs os ns).size = cs.size
  | [], _, _ => rfl
  | _ :: _, [], _ => rfl
  | o :: os, n :: ns, cs => by rw [setM, setM_size os ns]; simp
theorem setM_snoc : ∀ (os : List Nat) (ns : List Int) (cs : Array Value) (o : Nat) (n : Int), os.length = ns.length → setM cs (os ++ [o]) (ns ++ [n]) = (setM cs os ns).setIfInBounds o (.int .i64 n)
  | [], [], _, _, _, _ => rfl
  | [], _ :: _, _, _, _, h => by cases h
  | _ :: _, [], _, _, _, h => by cases h
  | o' :: os, n' :: ns, cs, o, n, h => by
    rw [List.cons_append, List.cons_append, setM, setM, setM_snoc os ns _ o n (by simpa using h)]
theorem allN_len : ∀ {l : List (List UInt8)} {ns : List Int}, allN l = some ns → ns.length = l.length := fun h => by
  obtain ⟨_, h2⟩ := allN_some.1 h
  rw [h2, List.length_map]
theorem allN_snoc {l : List (List UInt8)} {ns : List Int} {s : List UInt8} {n : Int} (h : allN l = some ns) (hn : numP s = some n) : allN (l ++ [s]) = some (ns ++ [n]) := by
  obtain ⟨h1, h2⟩ := allN_some.1 h
  obtain ⟨h3, h4⟩ := num_iff.1 hn
  refine allN_some.2 ⟨fun m hm => ?_, by rw [h2, List.map_append, ← h4]; rfl⟩
  rcases List.mem_append.1 hm with hm | hm
  · exact h1 m hm
  · rw [List.mem_singleton.1 hm]; exact h3
theorem allN_none {l : List (List UInt8)} {s : List UInt8} (hm : s ∈ l) (hn : numP s = none) : allN l = none := by
  cases h : allN l with
  | none => rfl
  | some ns =>
    obtain ⟨h1, h2⟩ := allN_some.1 h
    rw [h2] at hm
    obtain ⟨n, hn', rfl⟩ := List.mem_map.1 hm
    rw [num_iff.2 ⟨h1 n hn', rfl⟩] at hn
    cases hn
/-- strings that a slice tells, wherever it begins -/
def StrO (w : World) (v : Value) (ss : List ByteArray) : Prop :=
  (∃ ao c, v = .slice ao 0 c ∧ ss = []) ∨ ∃ g off cap, v = .slice (some ⟨g, off, none⟩) ss.length cap ∧ g < w.heap.size ∧ ∀ (i : Nat) s, ss[i]? = some s → w.cell? ⟨g, off + i, none⟩ = some (.string s)
theorem strO_shape {w : World} {v : Value} {ss : List ByteArray} (h : StrO w v ss) : ∃ ao cap, v = .slice ao ss.length cap := by
  rcases h with ⟨ao, c, e, rfl⟩ | ⟨g, off, cap, e, _⟩
  · exact ⟨ao, c, e⟩
  · exact ⟨_, cap, e⟩
theorem cell_keep {S : Nat → Prop} {g o : Nat} {x : Value} {a c : World} (h : a.cell? ⟨g, o, none⟩ = some x) (k : Keep S a c) (hg : g < a.heap.size) (hs : ¬ S g) : c.cell? ⟨g, o, none⟩ = some x := by
  have hk := k.block g hg hs
  unfold World.cell? at h ⊢
  simp only at h ⊢
  rw [hk]; exact h
/-- places in one block, told by pointers -/
def Plc (w : World) (v : Value) (tb : Nat) (os : List Nat) : Prop :=
  ∃ pb cap, v = .slice (some ⟨pb, 0, none⟩) os.length cap ∧ pb < w.heap.size ∧ pb ≠ tb ∧ ∀ (i : Nat) o, os[i]? = some o → w.cell? ⟨pb, i, none⟩ = some (.pointer (some ⟨tb, o, none⟩))
def FillOut (ss : List ByteArray) (os : List Nat) (tb : Nat) (T : TypeId) (cs : Array Value) (w : World) (e : Ending) (w' : World) : Prop :=
  ∃ r, e = .returned (.bool r) ∧ Keep (fun b => b = tb) w w' ∧ (r = true → ∃ ns, ss.length = os.length ∧ allN (ss.map (·.data.toList)) = some ns ∧ Blk tb T (setM cs os ns) w') ∧ (r = false → ss.length ≠ os.length ∨ allN (ss.map (·.data.toList)) = none)
set_option maxHeartbeats 3200000 in
theorem fill_calls {B : Nat} (ss : List ByteArray) (os : List Nat) (tb : Nat) (T : TypeId) (cs : Array Value) (sv pv : Value) (w : World) (hL : Hid (LibW B w)) (hS : Hid (StrO w sv ss)) (hP : Hid (Plc w pv tb os)) (hT : Hid (Blk tb T cs w)) (hB : B ≤ tb) (hne : Hid (∀ ao n c, sv = .slice ao n c → ∀ a, ao = some a → a.block ≠ tb))
    (hos : Hid (∀ o ∈ os, ∃ n, cs[o]? = some (.int .i64 n))) (hsz : Hid (∀ s ∈ ss, s.size ≤ 1000000)) (hlen : ss.length ≤ 1000000) :
    Calls Tryz.prog 59 #[sv, pv] w fun e w' => FillOut ss os tb T cs w e w' := by
  obtain ⟨sa, sc, rfl⟩ := strO_shape hS.out
  obtain ⟨pb, pc, rfl, hpb, hpt, hPC⟩ := hP.out
  have PCELL := hid hPC
  clear hP hPC
  by_cases hl : ss.length = os.length
  · have hd : ((ss.length : Int) != (os.length : Int)) = false := by simp [hl]
    have HLEN := hid hl
    rw [← hl]
    clear hl hd
    have hd : ((ss.length : Int) != (ss.length : Int)) = false := by simp
    go_enter Tryz.func59, Tryz.ntmps59
    go_wp2_with fail
    go_loopw [16] (fun iv wr => ∃ k : Nat, k ≤ ss.length ∧ iv = .int .i64 k ∧ Hid (∃ ns, allN ((ss.take k).map (·.data.toList)) = some ns ∧ Blk tb T (setM cs (os.take k) ns) wr ∧ Keep (fun b => b = tb) w wr)) (fun iv _ => ss.length - (intOf iv).toNat)
    case atStart => exact ⟨0, Nat.zero_le _, rfl, hid ⟨[], rfl, by simpa [setM] using hT.out, Keep.refl _ _⟩⟩
    case round =>
      obtain ⟨k, hk, rfl, hR⟩ := hrel
      rename World => wr
      obtain ⟨ns, hns, hbk, hkp⟩ := hR.out
      by_cases hkl : k < ss.length
      · have hx : ss[k]? = some ss[k] := List.getElem?_eq_getElem hkl
        have hol : k < os.length := by have := HLEN.out; omega
        have hxo : os[k]? = some os[k] := List.getElem?_eq_getElem hol
        obtain ⟨g, off, hsa, hgl, hc0⟩ : ∃ g off, sa = some ⟨g, off, none⟩ ∧ g < w.heap.size ∧ w.cell? ⟨g, off + k, none⟩ = some (.string ss[k]) := by
          rcases hS.out with ⟨ao, c, e, e2⟩ | ⟨g, off, cap, e, hg, hc⟩
          · rw [e2] at hkl; simp at hkl
          · injection e with e1
            exact ⟨g, off, e1, hg, hc k _ hx⟩
        have hgt : g ≠ tb := hne.out _ _ _ rfl _ hsa
        subst hsa
        have c0 := cell_keep hc0 hkp hgl hgt
        have hszk := hsz.out ss[k] (List.getElem_mem hkl)
        have HK1 := hid (show k + 1 ≤ ss.length by omega)
        have ST := hid (show (ss.take (k + 1)).map (·.data.toList) = (ss.take k).map (·.data.toList) ++ [ss[k].data.toList] by rw [List.take_succ_eq_append_getElem hkl, List.map_append]; rfl)
        have OT := hid (show os.take (k + 1) = os.take k ++ [os[k]] by rw [List.take_succ_eq_append_getElem hol])
        have MEM := hid (show ss[k].data.toList ∈ ss.map (·.data.toList) from List.mem_map.2 ⟨ss[k], List.getElem_mem hkl, rfl⟩)
        have hoc := hos.out os[k] (List.getElem_mem hol)
        have hpc := PCELL.out k _ hxo
        have hNL := hid (show (os.take k).length = ns.length by rw [allN_len hns, List.length_map, List.length_take, List.length_take]; omega)
        have HNS := hid hns
        have HBK := hid hbk
        have HKP := hid hkp
        have LW := hid (hL.out.on (hkp.below hL.out.le (fun b hb => by rw [hb]; exact hB)))
        clear hx hxo hns hbk hkp hc0 hR
        generalize ss[k] = s at *
        generalize os[k] = o at *
        clear hol
        go_wp2_with fail
        refine (anumber_calls s _ LW.out hszk).mono ?_
        rintro e w2 ⟨⟨n, b, rfl, hb⟩, b2⟩
        have B2 := hid b2
        clear b2 c0
        rcases hb with ⟨rfl, hn⟩ | ⟨rfl, hn⟩
        · have hp2 : w2.cell? ⟨pb, k, none⟩ = some (.pointer (some ⟨tb, o, none⟩)) := cell_keep hpc (HKP.out.trans (Keep.of (S := fun b => b = tb) B2.out) (fun _ _ h => h)) hpb hpt
          have hbk2 : Blk tb T (setM cs (os.take k) ns) w2 := blk_on HBK.out B2.out
          have hcell : ∃ u, w2.cell? ⟨tb, o, none⟩ = some u := by
            obtain ⟨m, hm⟩ := hoc
            have hlt : o < (setM cs (os.take k) ns).size := by rw [setM_size]; exact (Array.getElem?_eq_some_iff.1 hm).1
            exact ⟨(setM cs (os.take k) ns)[o], by rw [blk_cell hbk2]; exact Array.getElem?_eq_getElem hlt⟩
          obtain ⟨u, hu⟩ := hcell
          have hfz := blk_free hbk2 o
          have HN := hid hn
          have HB2 := hid hbk2
          clear hn hbk2 hoc hpc
          go_wp2_with fail
          go_roundw
          case rel =>
            exact ⟨k + 1, HK1.out, by go_num, hid ⟨ns ++ [n], by rw [ST.out]; exact allN_snoc HNS.out HN.out, by rw [OT.out, setM_snoc _ _ _ _ _ hNL.out]; exact blk_set HB2.out o _, (HKP.out.trans (Keep.of (S := fun b => b = tb) B2.out) (fun _ _ h => h)).trans (Keep.set (S := fun b => b = tb) rfl w2 o _) (fun _ _ h => h)⟩⟩
          case measure => have := HK1.out; simp [intOf]; omega
        · have HN := hid (allN_none MEM.out hn)
          clear hn hoc hpc
          go_wp2_with fail
          go_ret
          exact ⟨false, rfl, HKP.out.trans (Keep.of (S := fun b => b = tb) B2.out) (fun _ _ h => h), fun h => (nomatch h), fun _ => .inr HN.out⟩
      · have hke : k = ss.length := by omega
        have E1 := hid (show ss.take k = ss from List.take_of_length_le (by omega))
        have E2 := hid (show os.take k = os from List.take_of_length_le (by have := HLEN.out; omega))
        have HNS := hid hns
        have HBK := hid hbk
        have HKP := hid hkp
        clear hke hk hR hns hbk hkp
        go_wp2_with fail
        go_ret
        exact ⟨true, rfl, HKP.out, fun _ => ⟨ns, HLEN.out, by rw [← E1.out]; exact HNS.out, by rw [← E2.out]; exact HBK.out⟩, fun h => (nomatch h)⟩
  · have hd : ((ss.length : Int) != (os.length : Int)) = true := by simp; omega
    have HL := hid hl
    clear hl
    go_enter Tryz.func59, Tryz.ntmps59
    go_wp2_with fail
    go_ret
    exact ⟨false, rfl, Keep.refl _ _, fun h => (nomatch h), fun _ => .inl HL.out⟩

/-- an instruction's name found, or not -/
def NameR (s : List UInt8) (e : Ending) : Prop := ∃ o b, e = .returned (.tuple #[.int .i64 o, .bool b]) ∧ ((b = true ∧ (1 ≤ o ∧ o ≤ 32) ∧ s = opW o) ∨ (b = false ∧ ∀ o, 1 ≤ o ∧ o ≤ 32 → s ≠ opW o))
theorem index_calls (g : Nat) (s : ByteArray) (w : World) (h : Blk g 56 namA w) :
    Calls Tryz.prog 106 #[.slice (some ⟨g, 0, none⟩) 33 33, .string s] w fun e w' => e = .returned (.int .i64 (Lib.idxOfS namL s)) ∧ w' = w := by
  have := Any.slices_Index_string lays109 g 0 33 33 namL s w (by rw [nam_len]; omega) (by omega) (fun j hj => by
    rw [blk_cell h, Nat.zero_add]
    unfold namA
    rw [List.getElem?_toArray, List.getElem?_map, List.getElem?_eq_getElem hj, List.getD_eq_getElem?_getD, List.getElem?_eq_getElem hj]
    rfl)
  rwa [List.take_of_length_le (by rw [nam_len]; omega)] at this
set_option maxHeartbeats 3200000 in
theorem named_calls (s : ByteArray) (w : World) : Calls Tryz.prog 98 #[.string s] w fun e w' => NameR s.data.toList e ∧ Below w.heap.size w w' := by
  have NC := hid (names_calls w)
  have IX := hid (fun g W h => index_calls g s W h)
  obtain ⟨A, hA⟩ : ∃ A, A = namA := ⟨_, rfl⟩
  have hs : A.size = 33 := by rw [hA]; rfl
  have hone : A.all (·.oneCell') = true := by rw [hA]; kernel_rfl
  have hi : (Tryz.prog.info? 56).map (·.size) = some A.size := by rw [hs]; kernel_rfl
  have HR := hid (show (1 ≤ Lib.idxOfS namL s ∧ (1 ≤ Lib.idxOfS namL s ∧ Lib.idxOfS namL s ≤ 32) ∧ s.data.toList = opW (Lib.idxOfS namL s)) ∨ (Lib.idxOfS namL s < 1 ∧ ∀ o, 1 ≤ o ∧ o ≤ 32 → s.data.toList ≠ opW o) by
    by_cases h : ∃ o, (1 ≤ o ∧ o ≤ 32) ∧ s.data.toList = opW o
    · obtain ⟨o, ho, e⟩ := h
      rw [named_some ho e]
      exact .inl ⟨ho.1, ho, e⟩
    · have hno : ∀ o, 1 ≤ o ∧ o ≤ 32 → s.data.toList ≠ opW o := fun o ho e => h ⟨o, ho, e⟩
      exact .inr ⟨named_none hno, hno⟩)
  rw [← hA] at NC IX
  clear hA
  generalize Lib.idxOfS namL s = x at *
  have HS := hid hs
  have H1 := hid hone
  have HI := hid hi
  clear hs hone hi
  go_enter Tryz.func98, Tryz.ntmps98
  go_wp2_with fail
  refine NC.out.mono ?_
  rintro e w2 ⟨rfl, b2⟩
  have B2 := hid b2
  clear b2
  go_wp2_with (first | (refine store_arr (c' := A) rfl _ _ rfl rfl rfl HI.out (by rw [HS.out]; rfl) H1.out ?_) | fail)
  have B3 := hid (B2.out.trans ((box_below w2 (.cells A 56)).mono B2.out.size))
  refine (IX.out _ _ (blk_new w2 _ _)).mono ?_
  rintro e w4 ⟨rfl, rfl⟩
  rcases HR.out with ⟨h1, h2, h3⟩ | ⟨h1, h2⟩
  · have d : decide (x < 1) = false := decide_eq_false (by omega)
    have H3 := hid h3
    have H2 := hid h2
    clear h3 h2
    go_wp2_with fail
    go_ret2
    exact ⟨⟨_, _, rfl, .inl ⟨rfl, H2.out, H3.out⟩⟩, B3.out⟩
  · have d : decide (x < 1) = true := decide_eq_true h1
    have H2 := hid h2
    clear h2
    go_wp2_with fail
    go_ret2
    exact ⟨⟨_, _, rfl, .inr ⟨rfl, H2.out⟩⟩, B3.out⟩

end Go.Proofs.YtnojlfdojmkonaaGreatDoor
