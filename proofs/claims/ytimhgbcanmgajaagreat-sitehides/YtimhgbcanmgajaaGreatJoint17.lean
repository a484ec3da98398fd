/- The site of a table at which an object is used. The entry for an object. -/
import Derived.Test.YtimhgbcanmgajaaGreatSiPart
namespace Go.Proofs.YtimhgbcanmgajaaGreat
set_option linter.unusedSimpArgs false
set_option linter.unusedVariables false
set_option maxRecDepth 100000
open Go.RowKit

/-- the table behind the question which site plays a part -/
def partT (T : Tb) (f k : Int) (a : Int) (nm : ByteArray) : Tb := match siteT T f k with
  | none => T
  | some t => if t.mega then T else putT T f k (fixS t a nm)
def playsT (T : Tb) (f k : Int) (a : Int) (nm : ByteArray) : Bool := match siteT T f k with
  | none => false
  | some t => playsS t a nm
section
variable {K s : Nat} {T : Tb} {tb n g cap : Nat} {fs : List Fm} {col : Nat → Nat}
def TpOut (K s : Nat) (T : Tb) (H : He) (tb n g cap : Nat) (col : Nat → Nat) (w : World) (f k o : Int) (a : Int) (nm : ByteArray) (e : Ending) (w' : World) : Prop :=
  ∃ fs' col', TbAt (K + 1) s (if shapeH H o = 0 then T else partT T f k a nm) tb n g cap fs' col' w' ∧ Grew (fun u => u ≠ 0 ∧ u ≠ 2) col col' w w' ∧
    (((shapeH H o = 0 ∨ playsT T f k a nm = false) ∧ e = .returned (.pointer none)) ∨ (shapeH H o ≠ 0 ∧ playsT T f k a nm = true ∧ ∃ (i j x : Nat) (F' : Fm), f = (i : Int) ∧ k = (j : Int) ∧ fs'[i]? = some F' ∧ F'.mega = false ∧ F'.cel (j : Int) = some x ∧ e = .returned (.pointer (some ⟨x, 0, none⟩))))
set_option maxHeartbeats 1000000 in
theorem stpart_calls {SH : Nat → Prop} {J h : Nat} {H : He} (w : World) (p : TbAt K s T tb n g cap fs col w) (ph : HpS SH J h H w) (ok : TbOk H T) (hK : K ≤ 900000) (f k o : Int) {a : Int} (ha : a = 1 ∨ a = 2) (nm : ByteArray) :
    Calls Tryz.prog 52 #[.pointer (some ⟨tb, 0, none⟩), .pointer (some ⟨h, 0, none⟩), .int .i64 f, .int .i64 k, .int .i64 o, .agg #[.string nm, .bool (decide (a = 2))]] w fun e w' => TpOut K s T H tb n g cap col w f k o a nm e w' := by
  have A := (Below.refl w.heap.size w).alloc (Nat.le_refl _) (Obj.cells #[.string nm, .bool (decide (a = 2))] 139)
  have d0 : (w.alloc (Obj.cells #[.string nm, .bool (decide (a = 2))] 139)).cell? ⟨w.heap.size, 0, none⟩ = some (.string nm) := by simp
  have d1 : (w.alloc (Obj.cells #[.string nm, .bool (decide (a = 2))] 139)).cell? ⟨w.heap.size, 1, none⟩ = some (.bool (decide (a = 2))) := by simp
  have hl : w.heap.size < (w.alloc (Obj.cells #[.string nm, .bool (decide (a = 2))] 139)).heap.size := by simp
  have HS := hid (hshape_calls _ (ph.on A) o)
  have HP := hid p
  have HA := hid A
  clear p A ph
  generalize hua : decide (a = 2) = ua at *
  have HU := hid hua
  clear hua
  generalize hW : w.alloc (Obj.cells #[.string nm, .bool ua] 139) = w0 at *
  have P0 := hid (HP.out.on HA.out)
  have none_case : ∀ wx, Below w.heap.size w wx → siteT T f k = none → TpOut K s T H tb n g cap col w f k o a nm (.returned (.pointer none)) wx := fun wx b hn => by
    refine ⟨fs, col, ?_, Grew.below b HP.out.top, .inl ⟨.inr ?_, rfl⟩⟩
    · rw [show (if shapeH H o = 0 then T else partT T f k a nm) = T by unfold partT; rw [hn]; simp]
      exact (HP.out.on b).more (Nat.le_succ _)
    · unfold playsT; rw [hn]
  have NC := hid none_case
  clear none_case
  by_cases hr : 0 ≤ f ∧ f < (fs.length : Int)
  · obtain ⟨i, rfl⟩ : ∃ i : Nat, f = i := ⟨f.toNat, by omega⟩
    have hif : i < fs.length := by omega
    have hir : i < T.all.length := by rw [← HP.out.len]; exact hif
    obtain ⟨F, hF⟩ : ∃ F, fs[i]? = some F := ⟨fs[i], List.getElem?_eq_getElem hif⟩
    obtain ⟨r, hR⟩ : ∃ r, T.all[i]? = some r := ⟨T.all[i], List.getElem?_eq_getElem hir⟩
    have hcn := (HP.out.fn i F r hF hR).cnt
    have H1 := hid (sfun_some w0 P0.out hif)
    have H2 := hid (shas_calls w0 P0.out hF k)
    by_cases hk : 0 ≤ k ∧ k < F.count
    · rw [decide_eq_true hk] at H2
      obtain ⟨j, rfl⟩ : ∃ j : Nat, k = j := ⟨k.toNat, by omega⟩
      obtain ⟨t, hT⟩ : ∃ t, r[j]? = some t := ⟨r[j]'(by omega), List.getElem?_eq_getElem _⟩
      have hst : siteT T (i : Int) (j : Int) = some t := by
        unfold siteT
        rw [if_pos (by omega), Int.toNat_natCast, Int.toNat_natCast, hR]
        exact hT
      have hok := ok r (List.mem_of_getElem? hR) t (List.mem_of_getElem? hT)
      have H3 := hid (fun (wx : World) (b : Below w0.heap.size w0 wx) => spart_fn wx (P0.out.on b) hK hF hR hT hok.mega hok.use ha nm)
      rw [HU.out] at H3
      have HT := hid hst
      clear hr hk hcn hif hir hst hok ok
      by_cases hs : shapeH H o = 0
      · rw [hs] at HS
        have HSZ := hid hs
        clear hs
        go_enter Tryz.func52, Tryz.ntmps52
        go_wp2_with fail
        refine H1.out.mono ?_
        rintro e1 w1 ⟨rfl, rfl⟩
        go_wp2_with fail
        refine H2.out.mono ?_
        rintro e2 w2 ⟨rfl, rfl⟩
        go_wp2_with fail
        refine HS.out.mono ?_
        rintro e3 w3 ⟨rfl, b3⟩
        have B3 := hid (below_on HA.out b3)
        clear b3
        go_wp2_with fail
        go_ret
        refine ⟨fs, col, ?_, Grew.below B3.out HP.out.top, .inl ⟨.inl HSZ.out, rfl⟩⟩
        rw [if_pos HSZ.out]
        exact (HP.out.on B3.out).more (Nat.le_succ _)
      · have HSZ := hid hs
        have hs' : ¬ ((shapeH H o : Nat) : Int) = 0 := by omega
        clear hs
        generalize shapeH H o = sh at HS hs'
        go_enter Tryz.func52, Tryz.ntmps52
        go_wp2_with fail
        refine H1.out.mono ?_
        rintro e1 w1 ⟨rfl, rfl⟩
        go_wp2_with fail
        refine H2.out.mono ?_
        rintro e2 w2 ⟨rfl, rfl⟩
        go_wp2_with fail
        refine HS.out.mono ?_
        rintro e3 w3 ⟨rfl, b3⟩
        have B3 := hid (below_on HA.out b3)
        have H4 := hid (H3.out w3 b3)
        have y0 := hcell_on d0 hl b3
        have y1 := hcell_on d1 hl b3
        have hl3 := Nat.lt_of_lt_of_le hl b3.size
        clear b3 H3
        go_wp2_with fail
        refine H4.out.mono ?_
        rintro e4 w4 ⟨fs4, col4, p4, G4, h4⟩
        have hpt : partT T (i : Int) (j : Int) a nm = if t.mega then T else putT T (i : Int) (j : Int) (fixS t a nm) := by unfold partT; rw [HT.out]
        have hpl : playsT T (i : Int) (j : Int) a nm = playsS t a nm := by unfold playsT; rw [HT.out]
        have P4 := hid p4
        have G5 : Hid (Grew (fun u => u ≠ 0 ∧ u ≠ 2) col col4 w w4) := hid (Grew.trans (Grew.below B3.out HP.out.top) (G4.mono (fun u h => by rcases h with h | h; omega; unfold inF at h; omega)))
        have HPT := hid hpt
        have HPL := hid hpl
        clear p4 G4 hpt hpl
        rcases h4 with ⟨h5, rfl⟩ | ⟨h5, x, F', hf', hg', hx', rfl⟩
        · go_wp2_with fail
          go_ret
          exact ⟨fs4, col4, by rw [if_neg HSZ.out, HPT.out]; exact P4.out, G5.out, .inl ⟨.inr (by rw [HPL.out]; exact h5), rfl⟩⟩
        · go_wp2_with fail
          go_ret
          exact ⟨fs4, col4, by rw [if_neg HSZ.out, HPT.out]; exact P4.out, G5.out, .inr ⟨HSZ.out, by rw [HPL.out]; exact h5, i, j, x, F', rfl, rfl, hf', hg', hx', rfl⟩⟩
    · rw [decide_eq_false hk] at H2
      have hst : siteT T (i : Int) k = none := by
        unfold siteT
        split
        · rw [Int.toNat_natCast, hR]
          show r[k.toNat]? = none
          exact List.getElem?_eq_none (by omega)
        · rfl
      have HT := hid hst
      clear hr hk hcn hif hir hst
      go_enter Tryz.func52, Tryz.ntmps52
      go_wp2_with fail
      refine H1.out.mono ?_
      rintro e1 w1 ⟨rfl, rfl⟩
      go_wp2_with fail
      refine H2.out.mono ?_
      rintro e2 w2 ⟨rfl, rfl⟩
      go_wp2_with fail
      go_ret
      exact NC.out _ HA.out HT.out
  · have H1 := hid (sfun_none w0 P0.out (f := f) (by omega))
    have H2 := hid (shas_none w0 k)
    have hst : siteT T f k = none := by
      unfold siteT
      split
      · have : T.all[f.toNat]? = none := List.getElem?_eq_none (by have := HP.out.len; omega)
        rw [this]; rfl
      · rfl
    have HT := hid hst
    clear hr hst
    go_enter Tryz.func52, Tryz.ntmps52
    go_wp2_with fail
    refine H1.out.mono ?_
    rintro e1 w1 ⟨rfl, rfl⟩
    go_wp2_with fail
    refine H2.out.mono ?_
    rintro e2 w2 ⟨rfl, rfl⟩
    go_wp2_with fail
    go_ret
    exact NC.out _ HA.out HT.out
end
end Go.Proofs.YtimhgbcanmgajaaGreat

namespace Go.Proofs.YtimhgbcanmgajaaGreat
set_option linter.unusedSimpArgs false
set_option linter.unusedVariables false
set_option maxRecDepth 100000
open Go.RowKit

theorem ret_k {fn : Func} {t : Tmp} (h : fn.results = #[.cell t 141]) {tmps : Array Value} {g : Nat} {w : World} {a b c d e f : Value} (ht : tmps.getD t undef = .pointer (some ⟨g, 0, none⟩))
    (k : w.cell? ⟨g, 0, none⟩ = some a ∧ w.cell? ⟨g, 1, none⟩ = some b ∧ w.cell? ⟨g, 2, none⟩ = some c ∧ w.cell? ⟨g, 3, none⟩ = some d ∧ w.cell? ⟨g, 4, none⟩ = some e ∧ w.cell? ⟨g, 5, none⟩ = some f) :
    (results fn tmps).run Tryz.prog w = .ok (.agg #[a, b, c, d, e, f]) w := by
  rw [Array.getD_eq_getD_getElem?] at ht
  simp [results, h, ht, go_sem, asAddr, k.1, k.2.1, k.2.2.1, k.2.2.2.1, k.2.2.2.2.1, k.2.2.2.2.2]
theorem ret_kb {fn : Func} {t u : Tmp} (h : fn.results = #[.cell t 141, .tmp u]) {tmps : Array Value} {g : Nat} {w : World} {a b c d e f : Value} (ht : tmps.getD t undef = .pointer (some ⟨g, 0, none⟩))
    (k : w.cell? ⟨g, 0, none⟩ = some a ∧ w.cell? ⟨g, 1, none⟩ = some b ∧ w.cell? ⟨g, 2, none⟩ = some c ∧ w.cell? ⟨g, 3, none⟩ = some d ∧ w.cell? ⟨g, 4, none⟩ = some e ∧ w.cell? ⟨g, 5, none⟩ = some f) :
    (results fn tmps).run Tryz.prog w = .ok (.tuple #[.agg #[a, b, c, d, e, f], tmps.getD u undef]) w := by
  rw [Array.getD_eq_getD_getElem?] at ht
  simp [results, h, ht, go_sem, asAddr, k.1, k.2.1, k.2.2.1, k.2.2.2.1, k.2.2.2.2.1, k.2.2.2.2.2]
/-- where the first entry for a shape is -/
def idxL (l : List (En × Value)) (sh : Nat) : Int := match findE (l.map (·.1)) sh with | some i => (i : Int) | none => -1
theorem findE_get : ∀ {l : List En} {sh i : Nat} {e : En}, (∀ (j : Nat) (x : En), j < i → l[j]? = some x → x.sh ≠ sh) → l[i]? = some e → e.sh = sh → findE l sh = some i
  | [], sh, i, e, _, h, _ => by simp at h
  | x :: r, sh, 0, e, _, h, he => by
    simp at h
    subst h
    unfold findE
    rw [if_pos he]
  | x :: r, sh, i + 1, e, hb, h, he => by
    have h0 := hb 0 x (by omega) rfl
    unfold findE
    rw [if_neg h0, findE_get (l := r) (i := i) (e := e) (fun j y hj hy => hb (j + 1) y (by omega) (by simpa using hy)) (by simpa using h) he]
    rfl
theorem findE_no : ∀ {l : List En} {sh : Nat}, (∀ (j : Nat) (x : En), l[j]? = some x → x.sh ≠ sh) → findE l sh = none
  | [], sh, _ => rfl
  | x :: r, sh, hb => by
    unfold findE
    rw [if_neg (hb 0 x rfl), findE_no (fun j y hy => hb (j + 1) y (by simpa using hy))]
    rfl
theorem ptr_eqIn (w : World) (d s : Nat) : (Op.equalIn (d + 1) 76 (.pointer (some ⟨s, 0, none⟩)) (.pointer (some ⟨s, 0, none⟩))).run Tryz.prog w = .ok true w := by
  simp [Op.equalIn, run_underlying (show Tryz.prog.underlying 76 = some (.pointer 81) from by kernel_rfl), sameAddr]
theorem hp_eq (w : World) (s : Nat) : (binOp .eql 83 (.agg #[.pointer (some ⟨s, 0, none⟩)]) (.agg #[.pointer (some ⟨s, 0, none⟩)])).run Tryz.prog w = .ok (.bool true) w := by
  have h : (Op.equalIn 9999 76 (.pointer (some ⟨s, 0, none⟩)) (.pointer (some ⟨s, 0, none⟩))).run Tryz.prog w = .ok true w := ptr_eqIn w 9998 s
  simp [go_sem, h]
theorem sfind1_calls (w : World) (s bh bs : Nat) (p : En × Value) (sh : Nat) (h1 : w.cell? ⟨bh, 0, none⟩ = some (.pointer (some ⟨s, 0, none⟩))) (h2 : w.cell? ⟨bs, 0, none⟩ = some (.int .i64 (sh : Int))) (l1 : bh < w.heap.size) (l2 : bs < w.heap.size) :
    Calls Tryz.prog 142 #[keV s p, .pointer (some ⟨bh, 0, none⟩), .pointer (some ⟨bs, 0, none⟩)] w fun e w' => e = .returned (.bool (decide (p.1.sh = sh))) ∧ Below w.heap.size w w' := by
  have qH := hp_eq
  have A := hid ((Below.refl w.heap.size w).alloc (Nat.le_refl _) (Obj.cells #[.int .i64 (p.1.sh : Int), .int .i64 p.1.holder, .int .i64 p.1.slot, .int .i64 (p.1.to : Int), p.2, .pointer (some ⟨s, 0, none⟩)] 141))
  obtain ⟨⟨a, b, c, d, ds⟩, dv⟩ := p
  dsimp only at A ⊢
  unfold keV
  dsimp only
  by_cases he : a = sh
  · rw [decide_eq_true he]
    subst he
    go_enter Tryz.func142, Tryz.ntmps142
    go_wp2_with fail
    go_ret
    exact ⟨rfl, A.out⟩
  · rw [decide_eq_false he]
    have he' : (((a : Nat) : Int) == (sh : Int)) = false := by simp; omega
    clear he
    go_enter Tryz.func142, Tryz.ntmps142
    go_wp2_with fail
    go_ret
    exact ⟨rfl, A.out⟩
theorem kept_at {s : Nat} {v : Value} {l : List (En × Value)} {w : World} (h : w.ownsRow 0 141 6 v l.length (l.map (keC s)).flatten) {i : Nat} {p : En × Value} (hi : l[i]? = some p) :
    ∃ g cap, v = .slice (some ⟨g, 0, none⟩) l.length cap ∧ g < w.heap.size ∧ w.cell? ⟨g, i * 6, none⟩ = some (.int .i64 (p.1.sh : Int)) ∧ w.cell? ⟨g, i * 6 + 1, none⟩ = some (.int .i64 p.1.holder) ∧ w.cell? ⟨g, i * 6 + 2, none⟩ = some (.int .i64 p.1.slot) ∧
      w.cell? ⟨g, i * 6 + 3, none⟩ = some (.int .i64 (p.1.to : Int)) ∧ w.cell? ⟨g, i * 6 + 4, none⟩ = some p.2 ∧ w.cell? ⟨g, i * 6 + 5, none⟩ = some (.pointer (some ⟨s, 0, none⟩)) := by
  have hl : i < l.length := lt_of_get hi
  obtain ⟨g, cap, rfl, _, hg⟩ := World.ownsRow.form h (by omega)
  have hm : (l.map (keC s))[i]? = some (keC s p) := by rw [List.getElem?_map, hi]; rfl
  have at' : ∀ j, j < 6 → (l.map (keC s)).flatten[i * 6 + j]? = (keC s p)[j]? := fun j hj => flat_at (keC_len s l) hm hj
  exact ⟨g, cap, rfl, hg, row_cell h (at' 0 (by omega)), row_cell h (at' 1 (by omega)), row_cell h (at' 2 (by omega)), row_cell h (at' 3 (by omega)), row_cell h (at' 4 (by omega)), row_cell h (at' 5 (by omega))⟩
set_option maxHeartbeats 1000000 in
theorem sindex_calls (w : World) (s bh bs sh : Nat) (v : Value) (l : List (En × Value)) (R : w.ownsRow 0 141 6 v l.length (l.map (keC s)).flatten) (h1 : w.cell? ⟨bh, 0, none⟩ = some (.pointer (some ⟨s, 0, none⟩))) (h2 : w.cell? ⟨bs, 0, none⟩ = some (.int .i64 (sh : Int))) (l1 : bh < w.heap.size) (l2 : bs < w.heap.size) (hlen : l.length ≤ 1000000) :
    Calls Tryz.prog 141 #[v, .func (.func 142) #[] #[.pointer (some ⟨bh, 0, none⟩), .pointer (some ⟨bs, 0, none⟩)]] w fun e w' => e = .returned (.int .i64 (idxL l sh)) ∧ Below w.heap.size w w' := by
  obtain ⟨ao, cap0, rfl⟩ := row_shape R
  have HR := hid R
  clear R
  go_enter Tryz.func141, Tryz.ntmps141
  go_wp2_with fail
  go_loopw [8] (fun i wr => ∃ k : Nat, k ≤ l.length ∧ i = .int .i64 k ∧ (∀ (j : Nat) (x : En × Value), j < k → l[j]? = some x → x.1.sh ≠ sh) ∧ Hid (Below w.heap.size w wr)) (fun i _ => l.length - (intOf i).toNat)
  case atStart => exact ⟨0, by omega, rfl, fun j x hj => by omega, hid (Below.refl _ _)⟩
  case round =>
    obtain ⟨k, hk, rfl, hno, hB⟩ := hrel
    by_cases hgo : k < l.length
    · obtain ⟨p, hp⟩ : ∃ p, l[k]? = some p := ⟨l[k], List.getElem?_eq_getElem hgo⟩
      have Rr := row_keep HR.out (fun g hg => hB.out.block g (by obtain ⟨cur, hc⟩ := row_lt HR.out hg; exact blk_lt hc))
      obtain ⟨g, cap, hv, hg, c0, c1, c2, c3, c4, c5⟩ := kept_at Rr hp
      injection hv with hv1 _ hv2
      subst hv1 hv2
      have HC := hid (sfind1_calls wr s bh bs p sh (hcell_on h1 l1 hB.out) (hcell_on h2 l2 hB.out) (Nat.lt_of_lt_of_le l1 hB.out.size) (Nat.lt_of_lt_of_le l2 hB.out.size))
      unfold keV at HC
      have HPk := hid hp
      have HN := hid hno
      clear hp Rr hno
      by_cases he : p.1.sh = sh
      · rw [decide_eq_true he] at HC
        have HE := hid he
        clear he
        go_wp2_with fail
        refine HC.out.mono ?_
        rintro e1 w1 ⟨rfl, b1⟩
        have B1 := hid (below_in hB.out (Nat.le_refl _) b1)
        clear b1
        go_wp2_with fail
        go_ret
        refine ⟨?_, B1.out⟩
        have hf : findE (l.map (·.1)) sh = some k := findE_get (e := p.1) (fun j x hj hx => by
          rw [List.getElem?_map] at hx
          cases hlj : l[j]? with
          | none => rw [hlj] at hx; cases hx
          | some y => rw [hlj] at hx; injection hx with hx; subst hx; exact HN.out j y hj hlj) (by rw [List.getElem?_map, HPk.out]; rfl) HE.out
        rw [show idxL l sh = ((k : Nat) : Int) by unfold idxL; rw [hf]]
        rfl
      · rw [decide_eq_false he] at HC
        have HE := hid he
        clear he
        go_wp2_with fail
        refine HC.out.mono ?_
        rintro e1 w1 ⟨rfl, b1⟩
        have B1 := hid (below_in hB.out (Nat.le_refl _) b1)
        clear b1
        go_wp2_with fail
        go_roundw
        case rel => exact ⟨k + 1, by omega, rfl, fun j x hj hx => by
          by_cases e : j = k
          · subst e; rw [HPk.out] at hx; injection hx with hx; subst hx; exact HE.out
          · exact HN.out j x (by omega) hx, B1⟩
        case measure => simp [intOf]; omega
    · have hkl : k = l.length := by omega
      have HN := hid hno
      have HK := hid hkl
      clear hno hkl
      go_wp2_with fail
      go_ret
      refine ⟨?_, hB.out⟩
      have hf : findE (l.map (·.1)) sh = none := findE_no (fun j x hx => by
        rw [List.getElem?_map] at hx
        cases hlj : l[j]? with
        | none => rw [hlj] at hx; cases hx
        | some y => rw [hlj] at hx; injection hx with hx; subst hx; exact HN.out j y (by have := lt_of_get hlj; have := HK.out; omega) hlj)
      rw [show idxL l sh = (-1 : Int) by unfold idxL; rw [hf]]
      rfl
end Go.Proofs.YtimhgbcanmgajaaGreat
