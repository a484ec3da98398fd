/- All sites of a function are made mega. A table of sites that is new. The laws' own test of sites. -/
import Derived.Test.YtimhgbcanmgajaaGreatSiTop
import Derived.Test.YtimhgbcanmgajaaGreatJoint15
import Derived.Test.YtimhgbcanmgajaaGreatSiNil
import Derived.Test.YtimhgbcanmgajaaGreatHpMake2
namespace Go.Proofs.YtimhgbcanmgajaaGreat
set_option linter.unusedSimpArgs false
set_option linter.unusedVariables false
set_option maxRecDepth 100000
open Go.RowKit

theorem modify_out {α : Type} {l : List α} {i : Nat} (f : α → α) (h : l.length ≤ i) : l.modify i f = l := by
  apply List.ext_getElem?
  intro j
  rw [List.getElem?_modify]
  by_cases e : i = j
  · subst e
    rw [List.getElem?_eq_none h]
    rfl
  · simp [e]
theorem flushT_out {T : Tb} {f : Int} (m : Bool) (h : f < 0 ∨ (T.all.length : Int) ≤ f) : flushT T f m = T := by
  unfold flushT
  split
  · rfl
  · rw [modify_out _ (by omega)]
theorem flushT_at {T : Tb} {f : Nat} {r : List St} (m : Bool) (h : T.all[f]? = some r) : flushT T (f : Int) m = { T with all := T.all.set f (r.map fun s => { st0 with mega := m || s.mega }) } := by
  unfold flushT
  rw [if_neg (by omega), Int.toNat_natCast, modify_set _ h]
theorem rows_cell {w : World} {TE : TypeId} {ao : Option Addr} {fs : List Fm} {cap f j : Nat} {F F' : Fm} {v : Value} (r : w.ownsRow 0 TE 3 (.slice ao fs.length cap) fs.length (fs.map fmC).flatten) {g : Nat} (ha : ao = some ⟨g, 0, none⟩) (hf : fs[f]? = some F) (hj : j < 3) (h : (fmC F).set j v = fmC F') :
    (w.setCell ⟨g, f * 3 + j, none⟩ v).ownsRow 0 TE 3 (.slice ao (fs.set f F').length cap) (fs.set f F').length ((fs.set f F').map fmC).flatten := by
  have hm : (fs.map fmC)[f]? = some (fmC F) := by rw [List.getElem?_map, hf]; rfl
  subst ha
  have r := row_set r (f * 3 + j) v
  rw [flat_set v (fmC_len fs) hm hj, h, ← List.map_set] at r
  rw [List.length_set]
  exact r
section
variable {K s : Nat} {T : Tb} {tb n g cap : Nat} {fs : List Fm} {col : Nat → Nat}
set_option maxHeartbeats 1000000 in
theorem sturn_calls (w : World) (p : TbAt K s T tb n g cap fs col w) {f : Nat} {F : Fm} {r : List St} (hf : fs[f]? = some F) (hr : T.all[f]? = some r) :
    Calls Tryz.prog 70 #[.pointer (some ⟨g, f * 3, none⟩)] w fun e w' => e = .returned (.tuple #[]) ∧ TbAt K s (flushT T (f : Int) true) tb n g cap (fs.set f ⟨F.count, true, none, fun _ => none⟩) col w' ∧ Grew (fun u => u = 1) col col w w' := by
  obtain ⟨z0, z1, z2⟩ := p.fcell hf
  obtain ⟨l0, l1, l2⟩ := p.lt
  have fz := row_free p.row (f * 3 + 1)
  have fz2 := row_free p.row (f * 3 + 2)
  have hfl := lt_of_get hf
  have R1 := rows_cell (F' := ⟨F.count, true, F.m, F.cel⟩) (v := .bool true) (j := 1) p.row rfl hf (by omega) rfl
  have R2 := rows_cell (F' := ⟨F.count, true, none, fun _ => none⟩) (v := .map none) (j := 2) R1 rfl (List.getElem?_set_self hfl) (by omega) rfl
  rw [List.set_set] at R2
  have fz3 := row_free R1 (f * 3 + 2)
  have ng : tb ≠ g := fun e => by obtain ⟨cur, hc⟩ := row_lt p.row (g := g) rfl; rw [← e] at hc; exact absurd (blk_type hc p.bt) (by decide)
  have nn : n ≠ g := fun e => by obtain ⟨cur, hc⟩ := row_lt p.row (g := g) rfl; rw [← e] at hc; exact absurd (blk_type hc p.bn) (by decide)
  have G : Grew (fun u => u = 1) col col w ((w.setCell ⟨g, f * 3 + 1, none⟩ (.bool true)).setCell ⟨g, f * 3 + 2, none⟩ (.map none)) := ⟨fun _ _ => rfl, fun x hx => p.top x (by simpa using hx), keep_set (Keep.set (S := fun x => col x = 1) p.one.2.2 w _ _) p.one.2.2 _ _⟩
  have Q := hid (show TbAt K s (flushT T (f : Int) true) tb n g cap (fs.set f ⟨F.count, true, none, fun _ => none⟩) col ((w.setCell ⟨g, f * 3 + 1, none⟩ (.bool true)).setCell ⟨g, f * 3 + 2, none⟩ (.map none)) from by
    rw [flushT_at true hr]
    have hF := p.fn f F r hf hr
    refine p.chg (Nat.le_refl _) hf hr G (fun u hu => by rw [hu]; exact ⟨by omega, fun f' _ => by unfold inF; omega⟩) ?_ ?_ ?_ ⟨by rw [List.length_map]; exact hF.cnt, hF.big, fun m hm => (by cases hm), fun _ _ => rfl, fun k x hx => (by cases hx), fun _ t ht => ?_, fun _ => rfl, fun e => (by cases e), fun e => (by cases e)⟩
    · exact ((RowKit.Below.heap_setCell _ _ _ _ ng).trans (RowKit.Below.heap_setCell _ _ _ _ ng)).trans p.bt
    · exact ((RowKit.Below.heap_setCell _ _ _ _ nn).trans (RowKit.Below.heap_setCell _ _ _ _ nn)).trans p.bn
    · rw [List.length_set] at R2; exact R2
    · obtain ⟨s', _, rfl⟩ := List.mem_map.1 ht
      rfl)
  have HG := hid G
  clear p R1 R2 G hr
  go_enter Tryz.func70, Tryz.ntmps70
  go_wp2_with fail
  go_end0
  exact ⟨rfl, Q.out, HG.out⟩
theorem smega_calls (w : World) (p : TbAt K s T tb n g cap fs col w) (f : Int) :
    Calls Tryz.prog 26 #[.pointer (some ⟨tb, 0, none⟩), .int .i64 f] w fun e w' => e = .returned (.tuple #[]) ∧ ∃ fs', TbAt K s (flushT T f true) tb n g cap fs' col w' ∧ Grew (fun u => u = 1) col col w w' := by
  by_cases h : f < 0 ∨ (fs.length : Int) ≤ f
  · have H1 := hid (sfun_none w p h)
    have HP := hid (show TbAt K s (flushT T f true) tb n g cap fs col w from by rw [flushT_out true (by rw [← p.len]; exact h)]; exact p)
    clear p h
    go_enter Tryz.func26, Tryz.ntmps26
    go_wp2_with fail
    refine H1.out.mono ?_
    rintro e1 w1 ⟨rfl, rfl⟩
    go_wp2_with fail
    go_end0
    exact ⟨rfl, fs, HP.out, ⟨fun _ _ => rfl, HP.out.top, Keep.refl _ _⟩⟩
  · obtain ⟨i, rfl⟩ : ∃ i : Nat, f = i := ⟨f.toNat, by omega⟩
    have hi : i < fs.length := by omega
    have hF := List.getElem?_eq_getElem hi
    have hR := List.getElem?_eq_getElem (show i < T.all.length by rw [← p.len]; exact hi)
    have H1 := hid (sfun_some w p hi)
    have H2 := hid (sturn_calls w p hF hR)
    clear p h hF hR
    go_enter Tryz.func26, Tryz.ntmps26
    go_wp2_with fail
    refine H1.out.mono ?_
    rintro e1 w1 ⟨rfl, rfl⟩
    go_wp2_with fail
    refine H2.out.mono ?_
    rintro e2 w2 ⟨rfl, q, G⟩
    have HQ := hid (And.intro q G)
    clear q G H1 H2
    go_wp2_with fail
    go_end0
    exact ⟨rfl, _, HQ.out.1, HQ.out.2⟩
end
end Go.Proofs.YtimhgbcanmgajaaGreat

namespace Go.Proofs.YtimhgbcanmgajaaGreat
set_option linter.unusedSimpArgs false
set_option linter.unusedVariables false
set_option maxRecDepth 100000
open Go.RowKit

theorem made_flat (z : Array Value) (n : Nat) (hz : 0 < z.size) : (madeCells z (n * z.size)).toList = (List.replicate n z.toList).flatten := by
  have hl : ∀ r ∈ List.replicate n z.toList, r.length = z.size := fun r hr => by rw [(List.mem_replicate.1 hr).2]; simp
  apply List.ext_getElem?
  intro i
  by_cases hi : i < n * z.size
  · have hq : i / z.size < n := Nat.div_lt_of_lt_mul (by rw [Nat.mul_comm]; exact hi)
    have hr := Nat.mod_lt i hz
    have e : i = i / z.size * z.size + i % z.size := by rw [Nat.mul_comm]; exact (Nat.div_add_mod i z.size).symm
    have h1 := flat_at (l := List.replicate n z.toList) (i := i / z.size) (j := i % z.size) hl (by rw [List.getElem?_replicate, if_pos hq]) hr
    rw [← e] at h1
    rw [h1]
    unfold madeCells
    simp [hi, hr]
  · rw [List.getElem?_eq_none (by rw [Array.length_toList, size_madeCells]; omega), List.getElem?_eq_none (by rw [flat_len hl, List.length_replicate]; omega)]
def F0 (n : Int) : Fm := ⟨n, false, none, fun _ => none⟩
def fsK (ns : List Int) (k : Nat) : List Fm := (ns.take k).map F0 ++ List.replicate (ns.length - k) (F0 0)
theorem fsK_len (ns : List Int) (k : Nat) (h : k ≤ ns.length) : (fsK ns k).length = ns.length := by unfold fsK; simp; omega
theorem fsK_next {ns : List Int} {k : Nat} {x : Int} (h : ns[k]? = some x) : (fsK ns k).set k (F0 x) = fsK ns (k + 1) := by
  have hk := lt_of_get h
  unfold fsK
  rw [List.set_append_right _ _ (by simp; omega), List.take_add_one, h]
  have e1 : k - ((ns.take k).map F0).length = 0 := by simp; omega
  rw [e1, show ns.length - k = (ns.length - (k + 1)) + 1 by omega, List.replicate_succ, List.set_cons_zero]
  simp
theorem fsK_at {ns : List Int} {k : Nat} (h : k < ns.length) : (fsK ns k)[k]? = some (F0 0) := by
  unfold fsK
  rw [List.getElem?_append_right (by simp; omega)]
  have e1 : k - ((ns.take k).map F0).length = 0 := by simp; omega
  rw [e1, show ns.length - k = (ns.length - (k + 1)) + 1 by omega, List.replicate_succ]
  rfl
theorem undFs : Tryz.prog.underlying 92 = some (.slice 97) := by kernel_rfl
theorem infoFs : ∃ i0, Tryz.prog.info? 97 = some i0 ∧ i0.zero = some (.agg #[.int .i64 0, .bool false, .map none]) ∧ i0.size = 3 ∧ i0.bytes = 24 :=
  info_parts (show (Tryz.prog.info? 97).map (fun i => (i.zero, i.size, i.bytes)) = some (some (.agg #[.int .i64 0, .bool false, .map none]), 3, 24) by kernel_rfl)
set_option maxHeartbeats 2000000 in
theorem snew_calls (w : World) (s bb cp : Nat) (ns : List Int) (hc : ∀ (j : Nat) (x : Int), ns[j]? = some x → w.cell? ⟨bb, j, none⟩ = some (.int .i64 x)) (hb : bb < w.heap.size) (hl : ns.length ≤ 1000) (hns : ∀ x ∈ ns, x ≤ 4000) :
    Calls Tryz.prog 9 #[.slice (some ⟨bb, 0, none⟩) ns.length cp] w fun e w' => Below w.heap.size w w' ∧ ∃ tb, e = .returned (.pointer (some ⟨tb, 0, none⟩)) ∧ TbZ (fun b => w.heap.size ≤ b) 0 tb s (newT ns) w' := by
  obtain ⟨i0, hi0, hz0, hz1, hz2⟩ := infoFs
  go_enter Tryz.func9, Tryz.ntmps9
  go_wp2_with (first | (at_make; go_loud (refine wpList_make_full _ rfl _ _ _ rfl 0 _ i0 _ 3 undFs hi0 hz0 hz1 .i64 .i64 (ns.length : Int) (ns.length : Int) ns.length (by rfl) (by rfl) rfl rfl (by rw [hz2]; omega) (by unfold maxLen; omega) (Nat.zero_le _) ?_; intro w1 hown hgr; have HO := hid hown; have HG := hid hgr; clear hown hgr)) | fail)
  have R0 : w1.ownsRow 0 97 3 (.slice (some ⟨w.heap.size, 0, none⟩) ns.length ns.length) ns.length ((fsK ns 0).map fmC).flatten := by
    have := HO.out
    rw [show (Value.agg #[.int .i64 0, .bool false, .map none]).cells = #[.int .i64 0, .bool false, .map none] from rfl, show ns.length * 3 = ns.length * (#[Value.int .i64 0, .bool false, .map none] : Array Value).size from rfl, made_flat _ _ (by decide)] at this
    have e : (fsK ns 0).map fmC = List.replicate ns.length [Value.int .i64 0, .bool false, .map none] := by unfold fsK; simp [fmC, F0]
    rw [e]
    exact this
  have hg1 : w.heap.size < w1.heap.size := by obtain ⟨cur, hcc⟩ := row_lt R0 (g := w.heap.size) rfl; exact blk_lt hcc
  have b1 : Below w.heap.size w w1 := ⟨HG.out.os, HG.out.tape, HG.out.output, HG.out.size, fun k hk => HG.out.block k hk (by simp)⟩
  have A2 := (Below.refl w1.heap.size w1).alloc (Nat.le_refl _) (Obj.cells #[.slice (some ⟨w.heap.size, 0, none⟩) ns.length ns.length, .int .i64 0, .int .i64 0] 94)
  have I0 := hid (And.intro (row_keep (c := w1.alloc (Obj.cells #[.slice (some ⟨w.heap.size, 0, none⟩) ns.length ns.length, .int .i64 0, .int .i64 0] 94)) R0 (fun b hb' => by injection hb' with hb'; subst hb'; exact A2.block _ hg1)) (And.intro (blk_new w1 94 #[.slice (some ⟨w.heap.size, 0, none⟩) ns.length ns.length, .int .i64 0, .int .i64 0]) (below_in b1 (Nat.le_refl _) A2)))
  have HCC := hid hc
  clear R0 b1 A2 HO HG hc
  generalize hn1 : w1.heap.size = nB at *
  clear hn1
  go_loopw [13] (fun i wr => ∃ k : Nat, k ≤ ns.length ∧ i = .int .i64 k ∧ Hid (wr.ownsRow 0 97 3 (.slice (some ⟨w.heap.size, 0, none⟩) ns.length ns.length) ns.length ((fsK ns k).map fmC).flatten ∧ Blk nB 94 #[.slice (some ⟨w.heap.size, 0, none⟩) ns.length ns.length, .int .i64 0, .int .i64 0] wr ∧ Below w.heap.size w wr)) (fun i _ => ns.length - (intOf i).toNat)
  case atStart => exact ⟨0, by omega, rfl, I0⟩
  case round =>
    clear I0
    obtain ⟨k, hk, rfl, hI⟩ := hrel
    obtain ⟨i1, i2, i3⟩ := hI.out
    obtain ⟨f2, c2, l2⟩ := blk_own i2
    by_cases hgo : k < ns.length
    · obtain ⟨x, hx⟩ : ∃ x, ns[k]? = some x := ⟨ns[k], List.getElem?_eq_getElem hgo⟩
      have hcx := hcell_on (HCC.out k x hx) hb i3
      have hbr := Nat.lt_of_lt_of_le hb i3.size
      have fz := row_free i1 (k * 3)
      have hm : ((fsK ns k).map fmC)[k]? = some (fmC (F0 0)) := by rw [List.getElem?_map, fsK_at hgo]; rfl
      have z0 : wr.cell? ⟨w.heap.size, k * 3, none⟩ = some (.int .i64 0) := row_cell i1 (by have := flat_at (j := 0) (fmC_len (fsK ns k)) hm (by omega); simpa [fmC, F0] using this)
      have lg : w.heap.size < wr.heap.size := by obtain ⟨cur, hcc⟩ := row_lt i1 (g := w.heap.size) rfl; exact blk_lt hcc
      have hgn : nB ≠ w.heap.size := fun e => by obtain ⟨cur, hcc⟩ := row_lt i1 (g := w.heap.size) rfl; rw [← e] at hcc; exact absurd (blk_type i2 hcc) (by decide)
      have R1 : (wr.setCell ⟨w.heap.size, k * 3, none⟩ (.int .i64 x)).ownsRow 0 97 3 (.slice (some ⟨w.heap.size, 0, none⟩) ns.length ns.length) ns.length ((fsK ns (k + 1)).map fmC).flatten := by
        have r := row_set i1 (k * 3) (.int .i64 x)
        have fs := flat_set (j := 0) (.int .i64 x) (fmC_len (fsK ns k)) hm (by omega)
        rw [Nat.add_zero] at fs
        rw [fs, show (fmC (F0 0)).set 0 (.int .i64 x) = fmC (F0 x) from rfl, ← List.map_set, fsK_next hx] at r
        exact r
      have I2 := hid (And.intro R1 (And.intro ((show (wr.setCell ⟨w.heap.size, k * 3, none⟩ (.int .i64 x)).heap[nB]? = wr.heap[nB]? from RowKit.Below.heap_setCell _ _ _ _ hgn).trans i2) (below_set i3 (Nat.le_refl _) (i := k * 3) (.int .i64 x))))
      have hbn : bb ≠ w.heap.size := by omega
      clear hI i1 i2 i3 R1 hx hm
      go_wp2_with fail
      go_roundw
      case rel => exact ⟨k + 1, by omega, rfl, I2⟩
      case measure => simp [intOf]; omega
    · have hkl : k = ns.length := by omega
      subst hkl
      have lg : w.heap.size < wr.heap.size := by obtain ⟨cur, hcc⟩ := row_lt i1 (g := w.heap.size) rfl; exact blk_lt hcc
      have A := (Below.refl wr.heap.size wr).alloc (Nat.le_refl _) (Obj.cells #[.pointer (some ⟨nB, 0, none⟩)] 69)
      have hT : TbZ (fun b => w.heap.size ≤ b) 0 wr.heap.size s (newT ns) (wr.alloc (Obj.cells #[.pointer (some ⟨nB, 0, none⟩)] 69)) := by
        have hfl := fsK_len ns ns.length (Nat.le_refl _)
        have hfe : fsK ns ns.length = ns.map F0 := by unfold fsK; simp
        refine ⟨nB, w.heap.size, ns.length, fsK ns ns.length, fun b => if b = w.heap.size ∨ b = nB ∨ b = wr.heap.size then 1 else 0, ⟨blk_new _ _ _, by rw [hfl]; exact blk_on i2 A, by rw [hfl]; exact row_keep i1 (fun b hb' => by injection hb' with hb'; subst hb'; exact A.block _ lg), by rw [hfl]; unfold newT; simp, fun f F r h1 h2 => ?_, ⟨by simp, by simp, by simp⟩, fun b hb' => ?_, ⟨Nat.le_refl _, Nat.le_refl _⟩⟩, fun b hb' => ?_⟩
        · rw [hfe, List.getElem?_map] at h1
          unfold newT at h2
          dsimp only at h2
          rw [List.getElem?_map] at h2
          cases hx : ns[f]? with
          | none => rw [hx] at h1; cases h1
          | some x =>
            rw [hx] at h1 h2
            injection h1 with h1
            injection h2 with h2
            subst h1 h2
            have h4 := hns x (List.mem_of_getElem? hx)
            refine ⟨by rw [List.length_replicate]; show _ = x.toNat; omega, h4, fun m hm => (by cases hm), fun _ _ => rfl, fun k y hy => (by cases hy), fun hm => (by cases hm), fun _ => rfl, fun _ k t hk _ => ?_, fun _ k t y _ hy => (by cases hy)⟩
            exact (List.mem_replicate.1 (List.mem_of_getElem? hk)).2
        · have hb2 : wr.heap.size + 1 ≤ b := by simpa using hb'
          show (if _ then 1 else 0) = 0
          rw [if_neg (by omega)]
        · show w.heap.size ≤ b
          have h' : (if b = w.heap.size ∨ b = nB ∨ b = wr.heap.size then 1 else 0) ≠ 0 := hb'
          split at h'
          · rename_i h
            rcases h with h | h | h
            · omega
            · rw [h]; omega
            · omega
          · exact absurd rfl h'
      have HT := hid hT
      have HB := hid (below_in i3 (Nat.le_refl _) A)
      clear hI i1 i2 i3 hT A
      go_wp2_with fail
      go_ret
      exact ⟨HB.out, wr.heap.size, rfl, HT.out⟩
end Go.Proofs.YtimhgbcanmgajaaGreat

namespace Go.Proofs.YtimhgbcanmgajaaGreat
set_option linter.unusedSimpArgs false
set_option linter.unusedVariables false
set_option maxRecDepth 100000
open Go.RowKit

def nx17 : ByteArray := ⟨#[120]⟩
def v17 : Vl := (2, 1, ⟨#[]⟩)
def sw0 : He := newH 9 9 99
def sw2 : He := makeH (makeH sw0)
def sw3 : He := setH sw2 1 nx17 v17
def sw4 : He := setH sw3 2 nx17 v17
def st1' : Tb := getT sw4 (newT [1]) 0 0 1 nx17
def st2' : Tb := getT sw4 st1' 0 0 2 nx17
theorem sk1 : makeN sw0 = 1 ∧ makeN (makeH sw0) = 2 ∧ makeE sw0 = 0 ∧ makeE (makeH sw0) = 0 := by decide
theorem sk2 : setE sw2 1 nx17 = 0 ∧ setE sw3 2 nx17 = 0 := by decide
theorem sk3 : gotH sw4 1 nx17 = v17 ∧ gotH sw4 2 nx17 = v17 := by decide
theorem sk4 : st2'.hits = 1 ∧ st2'.misses = 1 ∧ (stateT st2' 0 0).1 = 1 ∧ (stateT st2' 0 0).2.length = 1 := by decide
theorem sk5 : ∀ r ∈ st2'.all, ∀ t ∈ r, ∀ e ∈ t.l, e.deps.length ≤ 300 := by decide
abbrev SiP (B : Nat) (X : Nat → Prop) (J K h s tb : Nat) (H : He) (T : Tb) (w : World) : Prop := Pr (fun S w => HpZ S J h s H w) (fun S w => TbZ S K tb s T w) (fun b => B ≤ b ∧ ¬ X b) w
theorem fam_si (J K h s tb : Nat) (H : He) (T : Tb) : Fam (Pr (fun S w => HpZ S J h s H w) (fun S w => TbZ S K tb s T w)) := (fam_hp J h s H).pr (fam_tb K tb s T)
set_option maxHeartbeats 4000000 in
theorem swork_calls (w : World) : Calls Tryz.prog 13 #[] w fun e w' => e = .returned (.bool true) ∧ Below w.heap.size w w' := by
  have nz : nx17.size ≤ 1000000 := by decide
  go_enter Tryz.func13, Tryz.ntmps13
  go_wp2_with fail
  refine (hnew_calls w 9 0 9 0 99).mono ?_
  rintro e1 w1 ⟨h, rfl, ⟨s, p1⟩, b1⟩
  have P1 := hid p1
  have B1 := hid b1
  clear p1 b1
  go_wp2_with fail
  refine (hmake_z w1 P1.out).mono ?_
  rintro e2 w2 ⟨rfl, p2, k2⟩
  have P2 := hid (show HpZ (fun b => w.heap.size ≤ b) 40 h s (makeH sw0) w2 from p2.mono (fun b _ h => by rcases h with h | h; exact h; exact Nat.le_trans B1.out.size h))
  have B2 := hid (B1.out.trans (k2.below B1.out.size (fun _ h => h)))
  have e1 : (makeN (newH 9 9 99) : Int) = 1 := by rw [show newH 9 9 99 = sw0 from rfl, sk1.1]; rfl
  have e2 : makeE (newH 9 9 99) = 0 := sk1.2.2.1
  rw [e1, e2]
  clear p2 k2 P1 B1
  go_wp2_with fail
  refine (hmake_z w2 P2.out).mono ?_
  rintro e3 w3 ⟨rfl, p3, k3⟩
  have P3 := hid (show HpZ (fun b => w.heap.size ≤ b ∧ b ≠ w3.heap.size) 40 h s sw2 w3 from p3.mono (fun b hb h => ⟨by rcases h with h | h; exact h; exact Nat.le_trans B2.out.size h, by omega⟩))
  have B3 := hid (B2.out.trans (k3.below B2.out.size (fun _ h => h)))
  have e3 : (makeN (makeH sw0) : Int) = 2 := by rw [sk1.2.1]; rfl
  rw [e3, sk1.2.2.2]
  clear p3 k3 P2 B2
  have A3 := (Below.refl w3.heap.size w3).alloc (Nat.le_refl _) (Obj.cells #[.int .i64 2, .int .i64 1, .string ⟨#[]⟩] 37)
  have P4 := hid (P3.out.on A3)
  have B4 := hid (below_in B3.out (Nat.le_refl _) A3)
  have hX0 : w3.heap.size < (w3.alloc (Obj.cells #[.int .i64 2, .int .i64 1, .string ⟨#[]⟩] 37)).heap.size := by simp
  have z0 : (w3.alloc (Obj.cells #[.int .i64 2, .int .i64 1, .string ⟨#[]⟩] 37)).cell? ⟨w3.heap.size, 0, none⟩ = some (.int .i64 2) := by simp
  have z1 : (w3.alloc (Obj.cells #[.int .i64 2, .int .i64 1, .string ⟨#[]⟩] 37)).cell? ⟨w3.heap.size, 1, none⟩ = some (.int .i64 1) := by simp
  have z2 : (w3.alloc (Obj.cells #[.int .i64 2, .int .i64 1, .string ⟨#[]⟩] 37)).cell? ⟨w3.heap.size, 2, none⟩ = some (.string ⟨#[]⟩) := by simp
  have HS1 := hid (hset_z _ P4.out (by omega) (by omega) 1 nx17 nz v17)
  rw [sk2.1] at HS1
  unfold vlV v17 nx17 at HS1
  have hz3 := B3.out.size
  clear A3 P3 B3
  go_wp2_with fail
  refine HS1.out.mono ?_
  rintro e5 w5 ⟨rfl, pk⟩
  obtain ⟨p5, k5, b5⟩ := law_step (fam_hp 41 h s sw3) (B := w.heap.size) (X := fun b => b = w3.heap.size) (fun b e => by rw [e]; exact hX0) B4.out.size pk
  have P5 := hid p5
  have B5 := hid (B4.out.trans b5)
  have z0 := hcell_keep z0 hX0 k5 (fun h => h.2 rfl)
  have z1 := hcell_keep z1 hX0 k5 (fun h => h.2 rfl)
  have z2 := hcell_keep z2 hX0 k5 (fun h => h.2 rfl)
  have hX5 := Nat.lt_of_lt_of_le hX0 k5.size
  have HS2 := hid (hset_z w5 P5.out (by omega) (by omega) 2 nx17 nz v17)
  rw [sk2.2] at HS2
  unfold vlV v17 nx17 at HS2
  clear pk p5 k5 b5 HS1 P4 B4 hX0
  go_wp2_with fail
  refine HS2.out.mono ?_
  rintro e6 w6 ⟨rfl, pk⟩
  obtain ⟨p6, k6, b6⟩ := law_step (fam_hp 42 h s sw4) (B := w.heap.size) (X := fun b => b = w3.heap.size) (fun b e => by rw [e]; exact hX5) B5.out.size pk
  have P6 := hid p6
  have B6 := hid (B5.out.trans b6)
  have z0 := hcell_keep z0 hX5 k6 (fun h => h.2 rfl)
  have z1 := hcell_keep z1 hX5 k6 (fun h => h.2 rfl)
  have z2 := hcell_keep z2 hX5 k6 (fun h => h.2 rfl)
  have hX6 := Nat.lt_of_lt_of_le hX5 k6.size
  clear pk p6 k6 b6 HS2 P5 B5 hX5
  have A6 := (Below.refl w6.heap.size w6).alloc (Nat.le_refl _) (Obj.cells #[.int .i64 1] 3)
  have HN := hid (snew_calls (w6.alloc (Obj.cells #[.int .i64 1] 3)) s w6.heap.size 1 [1] (fun j x hj => by
    cases j with
    | zero => injection hj with hj; subst hj; simp
    | succ j => cases hj) (by simp) (by decide) (by decide))
  have P7 := hid (P6.out.on A6)
  have B7 := hid (below_in B6.out (Nat.le_refl _) A6)
  have z0 := hcell_on z0 hX6 A6
  have z1 := hcell_on z1 hX6 A6
  have z2 := hcell_on z2 hX6 A6
  have hX7 := Nat.lt_of_lt_of_le hX6 A6.size
  generalize hW7 : w6.alloc (Obj.cells #[.int .i64 1] 3) = w7 at *
  clear A6 P6 B6 hX6
  go_wp2_with fail
  refine HN.out.mono ?_
  rintro e8 w8 ⟨b8, tb, rfl, T8⟩
  have z0 := hcell_on z0 hX7 b8
  have z1 := hcell_on z1 hX7 b8
  have z2 := hcell_on z2 hX7 b8
  have hX8 := Nat.lt_of_lt_of_le hX7 b8.size
  have B8 := hid (below_in B7.out (Nat.le_refl _) b8)
  have P8 := hid (show SiP w.heap.size (fun b => b = w3.heap.size) 42 0 h s tb sw4 (newT [1]) w8 from Pr.mk (fam_hp _ _ _ _) (fam_tb _ _ _ _) (U := fun b => (w.heap.size ≤ b ∧ b ≠ w3.heap.size) ∧ b < w7.heap.size) (V := fun b => w7.heap.size ≤ b)
    ((fam_hp _ _ _ _).on ((fam_hp _ _ _ _).mono P7.out (fun b hb h => ⟨h, hb⟩)) b8) T8 (fun x _ h1 h2 => by omega) (fun x _ h1 => h1.1) (fun x _ h2 => ⟨by have := B7.out.size; have h2' : w7.heap.size ≤ x := h2; omega, fun e => by have e' : x = w3.heap.size := e; have h2' : w7.heap.size ≤ x := h2; omega⟩))
  have HG1 := hid (sget_calls w8 P8.out (newT_ok _ _) (by omega) (by omega) 0 0 1 nx17 nz)
  rw [sk3.1] at HG1
  unfold vlV v17 nx17 at HG1
  have W := hid (show WfH 42 sw4 from P8.out.fst.elim (fun U h => h.s.wf))
  clear b8 T8 HN hX7 P7 B7 hW7
  go_wp2_with fail
  refine HG1.out.mono ?_
  rintro e9 w9 ⟨rfl, pk⟩
  obtain ⟨p9, k9, b9⟩ := law_step (fam_si 42 2 h s tb sw4 st1') (B := w.heap.size) (X := fun b => b = w3.heap.size) (fun b e => by rw [e]; exact hX8) B8.out.size pk
  have P9 := hid p9
  have B9 := hid (B8.out.trans b9)
  have z0 := hcell_keep z0 hX8 k9 (fun h => h.2 rfl)
  have z1 := hcell_keep z1 hX8 k9 (fun h => h.2 rfl)
  have z2 := hcell_keep z2 hX8 k9 (fun h => h.2 rfl)
  have hX9 := Nat.lt_of_lt_of_le hX8 k9.size
  have HG2 := hid (sget_calls w9 P9.out (getT_ok W.out (newT_ok _ _) _ _ _ _) (by omega) (by omega) 0 0 2 nx17 nz)
  rw [sk3.2] at HG2
  unfold vlV v17 nx17 at HG2
  clear pk p9 k9 b9 HG1 P8 B8 hX8
  go_wp2_with fail
  refine HG2.out.mono ?_
  rintro e10 w10 ⟨rfl, pk⟩
  obtain ⟨p10, k10, b10⟩ := law_step (fam_si 42 4 h s tb sw4 st2') (B := w.heap.size) (X := fun b => b = w3.heap.size) (fun b e => by rw [e]; exact hX9) B9.out.size pk
  have P10 := hid p10
  have B10 := hid (B9.out.trans b10)
  have z0 := hcell_keep z0 hX9 k10 (fun h => h.2 rfl)
  have z1 := hcell_keep z1 hX9 k10 (fun h => h.2 rfl)
  have z2 := hcell_keep z2 hX9 k10 (fun h => h.2 rfl)
  have hX10 := Nat.lt_of_lt_of_le hX9 k10.size
  have ok := hid (getT_ok W.out (getT_ok W.out (newT_ok sw4 [1]) 0 0 1 nx17) 0 0 2 nx17)
  have HST := hid (fun (wx : World) (b : Below w10.heap.size w10 wx) => ((fam_si 42 4 h s tb sw4 st2').on P10.out b).snd.elim fun V q => q.elim fun n q => q.elim fun g q => q.elim fun cap q => q.elim fun fs q => q.elim fun col q => sstate_calls wx q.1 ok.out sk5 0 0)
  have HCT := hid (fun (wx : World) (b : Below w10.heap.size w10 wx) => ((fam_si 42 4 h s tb sw4 st2').on P10.out b).snd.elim fun V q => q.elim fun n q => q.elim fun g q => q.elim fun cap q => q.elim fun fs q => q.elim fun col q => scounts_calls wx q.1)
  rw [sk4.2.2.1] at HST
  have A11 := ((Below.refl w10.heap.size w10).alloc (Nat.le_refl _) (Obj.cells #[.int .i64 2, .int .i64 1, .string ⟨#[]⟩] 37)).alloc (by simp) (Obj.cells #[.int .i64 2, .int .i64 1, .string ⟨#[]⟩] 37)
  have V1 := blk_on (blk_new w10 37 #[.int .i64 2, .int .i64 1, .string ⟨#[]⟩]) ((Below.refl _ _).alloc (Nat.le_refl _) (Obj.cells #[.int .i64 2, .int .i64 1, .string ⟨#[]⟩] 37))
  have V2 := blk_new (w10.alloc (Obj.cells #[.int .i64 2, .int .i64 1, .string ⟨#[]⟩] 37)) 37 #[.int .i64 2, .int .i64 1, .string ⟨#[]⟩]
  rw [show (w10.alloc (Obj.cells #[.int .i64 2, .int .i64 1, .string ⟨#[]⟩] 37)).heap.size = w10.heap.size + 1 by simp] at V2
  have z0 := hcell_on z0 hX10 A11
  have z1 := hcell_on z1 hX10 A11
  have z2 := hcell_on z2 hX10 A11
  have hX11 := Nat.lt_of_lt_of_le hX10 A11.size
  have HV1 := hid V1
  have HV2 := hid V2
  have HA11 := hid A11
  clear pk p10 k10 b10 HG2 P9 B9 hX9 V1 V2 A11 hX10
  go_wp2_with fail
  refine (HST.out _ HA11.out).mono ?_
  rintro e12 w12 ⟨b12, lv, rfl, ev⟩
  have z0 := hcell_on z0 hX11 b12
  have z1 := hcell_on z1 hX11 b12
  have z2 := hcell_on z2 hX11 b12
  have hX12 := Nat.lt_of_lt_of_le hX11 b12.size
  have HV1 := hid (blk_on HV1.out b12)
  have HV2 := hid (blk_on HV2.out b12)
  have HA12 := hid (below_on HA11.out b12)
  obtain ⟨ao, cap, rfl⟩ := ev.shape
  rw [sk4.2.2.2]
  clear b12 ev HA11
  have HC1 := hid (HCT.out w12 HA12.out)
  rw [sk4.1, sk4.2.1] at HC1
  go_wp2_with fail
  refine HC1.out.mono ?_
  rintro e13 w13 ⟨rfl, b13⟩
  have z0 := hcell_on z0 hX12 b13
  have z1 := hcell_on z1 hX12 b13
  have z2 := hcell_on z2 hX12 b13
  have hX13 := Nat.lt_of_lt_of_le hX12 b13.size
  obtain ⟨f1, c1, l1⟩ := blk_own (blk_on HV1.out b13)
  obtain ⟨f2, c2, l2⟩ := blk_own (blk_on HV2.out b13)
  have B13 := hid (below_in B10.out (Nat.le_refl _) (below_on HA12.out b13))
  clear b13 HC1 HCT HST HV1 HV2 HA12
  go_wp2_with fail
  go_ret
  exact ⟨rfl, B13.out⟩
end Go.Proofs.YtimhgbcanmgajaaGreat
