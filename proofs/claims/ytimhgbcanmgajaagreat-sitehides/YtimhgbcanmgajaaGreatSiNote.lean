/- Hits and misses; what is found is kept. -/
import Derived.Test.YtimhgbcanmgajaaGreatSiKeep
namespace Go.Proofs.YtimhgbcanmgajaaGreat
set_option linter.unusedSimpArgs false
set_option linter.unusedVariables false
set_option maxRecDepth 100000
open Go.RowKit

/-- a site behind what was found along a chain -/
def keptS (H : He) (o : Int) (nm : ByteArray) (t : St) : St := match lookE H o nm with | some en => keepS t en | none => t
theorem keptS_some {H : He} {o : Int} {nm : ByteArray} {en : En} (h : lookE H o nm = some en) (t : St) : keptS H o nm t = keepS t en := by unfold keptS; rw [h]
theorem keptS_none {H : He} {o : Int} {nm : ByteArray} (h : lookE H o nm = none) (t : St) : keptS H o nm t = t := by unfold keptS; rw [h]
set_option maxHeartbeats 1000000 in
theorem skeepf_calls (w : World) {s f k x : Nat} {t : St} {col : Nat → Nat} (htop : ∀ b, w.heap.size ≤ b → col b = 0) (C : CeS s f k x t col w) (hm : t.mega = false) (few : t.l.length ≤ 4) {U : Nat → Prop} {J h : Nat} {H : He} (ph : HpZ U J h s H w) (hJ : J ≤ 900000) (o : Int) (nm : ByteArray) (hn : nm.size ≤ 1000000) :
    Calls Tryz.prog 57 #[.pointer (some ⟨x, 0, none⟩), .pointer (some ⟨h, 0, none⟩), .int .i64 o, .string nm] w fun e w' => e = .returned (.tuple #[]) ∧
      ∃ col', Grew (fun u => u = cS f k) col col' w w' ∧ CeS s f k x (keptS H o nm t) col' w' := by
  have HS := hid (sseek_calls w ph hJ o nm hn)
  have HC := hid C
  have HT := hid htop
  clear C ph htop
  go_enter Tryz.func57, Tryz.ntmps57
  go_wp2_with fail
  refine HS.out.mono ?_
  rintro e1 w1 ⟨b1, ⟨hL, rfl⟩ | ⟨en, dv, hL, D, hd, rfl⟩⟩
  · have B1 := hid b1
    have HLL := hid hL
    clear b1 hL HS
    go_wp2_with fail
    go_end0
    have B2 := below_on B1.out ((Below.refl w1.heap.size w1).alloc (Nat.le_refl _) (Obj.cells #[.int .i64 0, .int .i64 0, .int .i64 0, .int .i64 0, .slice none 0 0, .pointer none] 141))
    rw [keptS_none HLL.out]
    exact ⟨rfl, col, Grew.below B2 HT.out, HC.out.grew (P := fun u => u = 0) (Grew.below B2 HT.out) (fun u e => by unfold cS; omega)⟩
  · have HLL := hid hL
    obtain ⟨ao, dcap, rfl⟩ := D.shape
    obtain ⟨W2, hW2⟩ : ∃ W2, W2 = w1.alloc (Obj.cells #[.int .i64 (en.sh : Int), .int .i64 en.holder, .int .i64 en.slot, .int .i64 (en.to : Int), .slice ao en.deps.length dcap, .pointer (some ⟨s, 0, none⟩)] 141) := ⟨_, rfl⟩
    have b2 : Below w1.heap.size w1 W2 := by rw [hW2]; exact (Below.refl _ _).alloc (Nat.le_refl _) _
    have G2 := grew_new (col := col) (below_on b1 b2) 2
    have hlt : ∀ b, (Value.slice ao en.deps.length dcap).ownBlock = some b → b < W2.heap.size := fun b hb => Nat.lt_of_lt_of_le (D.lt hb) b2.size
    have C2 := HC.out.grew G2 (fun u h => h.elim)
    have hcd : ∀ b, (Value.slice ao en.deps.length dcap).ownBlock = some b → ext col w.heap.size W2.heap.size 2 b = 2 := fun b hb => by
      have := hd b hb
      have := hlt b hb
      unfold ext
      rw [if_neg (by omega), if_pos (by omega)]
    have HK := hid (skeep_calls W2 C2 hm few en (.slice ao en.deps.length dcap) (D.on b2) hcd)
    unfold keV at HK
    dsimp only at HK
    have HG2 := hid G2
    have HW := hid hW2
    clear b1 b2 G2 hlt C2 hcd D hd HS hW2 hL
    go_wp2_with fail
    rw [← HW.out]
    refine HK.out.mono ?_
    rintro e3 w3 ⟨rfl, C3, K3⟩
    have HC3 := hid C3
    have HK3 := hid K3
    clear C3 K3 HK
    go_wp2_with fail
    go_end0
    rw [keptS_some HLL.out]
    refine ⟨rfl, _, (HG2.out.mono (fun u h => h.elim)).trans (grew_ext HK3.out), HC3.out⟩
section
variable {K s : Nat} {T : Tb} {tb n g cap : Nat} {fs : List Fm} {col : Nat → Nat}
theorem TbAt.cell {w : World} (p : TbAt K s T tb n g cap fs col w) {f k x : Nat} {F : Fm} {r : List St} {t : St} (hf : fs[f]? = some F) (hg : F.mega = false) (hx : F.cel (k : Int) = some x) (hr : T.all[f]? = some r) (ht : r[k]? = some t) : CeS s f k x t col w ∧ (t.as' ≠ 0 ∨ t.mega = true) := (p.fn f F r hf hr).new hg k t x ht hx
/-- one site has changed -/
theorem TbAt.site {w : World} {P : Nat → Prop} {f k x : Nat} {F : Fm} {r : List St} {t : St} {col' : Nat → Nat} {w' : World} (p : TbAt K s T tb n g cap fs col w) (hf : fs[f]? = some F) (hr : T.all[f]? = some r) (hk : k < r.length) (hg : F.mega = false) (hx : F.cel (k : Int) = some x)
    (G : Grew P col col' w w') (hP : ∀ u, P u → u = cS f k) (C : CeS s f k x t col' w') (ht : t.as' ≠ 0 ∨ t.mega = true) : TbAt K s (putT T (f : Int) (k : Int) t) tb n g cap fs col' w' := by
  have hF := p.fn f F r hf hr
  have hcnt := hF.cnt
  have hbig := hF.big
  have l := p.lt
  have o := p.one
  have n1 : ∀ b, col b = 1 → ¬ P (col b) := fun b hb e => by have := hP _ e; unfold cS at this; omega
  rw [putT_at hr]
  have hfs : fs.set f F = fs := by
    apply List.ext_getElem?
    intro j
    rw [List.getElem?_set]
    by_cases e : f = j
    · subst e; rw [if_pos rfl, if_pos (lt_of_get hf), hf]
    · rw [if_neg e]
  have q := p.chg (F' := F) (r' := r.set k t) (J := K) (Nat.le_refl _) hf hr G (fun u hu => by
    have := hP u hu
    refine ⟨by rw [this]; unfold cS; omega, fun f' hne => ?_⟩
    rw [this]
    unfold inF cS
    omega) (blk_keep p.bt G.keep (n1 _ o.1)) (blk_keep p.bn G.keep (n1 _ o.2.1)) (by
      rw [hfs]
      exact row_keep p.row (fun b hb => by injection hb with hb; subst hb; exact G.keep.block _ l.2.2 (n1 _ o.2.2))) ?_
  · rw [hfs] at q; exact q
  · refine ⟨by rw [List.length_set]; exact hF.cnt, hF.big, fun m hm => ?_, hF.nil, hF.dom, fun e => (by rw [hg] at e; cases e), hF.mnil, fun hg j u hj e => ?_, fun hg j u y hj e => ?_⟩
    · obtain ⟨⟨c, h1, h2⟩, h3⟩ := hF.map m hm
      have lm := mapP_lt h1
      exact ⟨⟨c, mapP_keep h1 (G.keep.block m lm (fun e => by have := hP _ e; rw [h3] at this; unfold cM cS at this; omega)), h2⟩, by rw [G.old m lm]; exact h3⟩
    · by_cases hjk : k = j
      · subst hjk; rw [hx] at e; cases e
      · rw [List.getElem?_set_ne hjk] at hj
        exact hF.old hg j u hj e
    · by_cases hjk : k = j
      · subst hjk
        rw [List.getElem?_set_self hk] at hj
        injection hj with hj
        rw [hx] at e
        injection e with e
        subst hj e
        exact ⟨C, ht⟩
      · rw [List.getElem?_set_ne hjk] at hj
        have h1 := hF.new hg j u y hj e
        have hjl := lt_of_get hj
        exact ⟨h1.1.grew G (fun v hv => by rw [hP v hv]; exact ⟨by unfold cS; omega, by unfold cS; omega⟩), h1.2⟩
set_option maxHeartbeats 1000000 in
theorem snote_calls (w : World) (p : TbAt K s T tb n g cap fs col w) (hK : K ≤ 900000) (b : Bool) :
    Calls Tryz.prog 55 #[.pointer (some ⟨tb, 0, none⟩), .bool b] w fun e w' => e = .returned (.tuple #[]) ∧ TbAt (K + 1) s (if b then hitT T else missT T) tb n g cap fs col w' ∧ Grew (fun u => u = 1) col col w w' := by
  have HM := hid (smade_calls w p)
  obtain ⟨c0, c1, c2, c3⟩ := p.cells
  obtain ⟨l0, l1, l2⟩ := p.lt
  have hn : tb ≠ n := fun e => by have h1 := p.bt; have h2 := p.bn; subst e; exact absurd (blk_type h1 h2) (by decide)
  have fz := blk_free p.bn
  have hit := p.hit
  have key : ∀ (i : Nat) (v : Value) (T' : Tb), T'.all = T.all → T'.hits ≤ K + 1 ∧ T'.misses ≤ K + 1 → Blk n 94 #[.slice (some ⟨g, 0, none⟩) fs.length cap, .int .i64 (T'.hits : Int), .int .i64 (T'.misses : Int)] (w.setCell ⟨n, i, none⟩ v) → TbAt (K + 1) s T' tb n g cap fs col (w.setCell ⟨n, i, none⟩ v) ∧ Grew (fun u => u = 1) col col w (w.setCell ⟨n, i, none⟩ v) := fun i v T' hall hh hb => by
    have G : Grew (fun u => u = 1) col col w (w.setCell ⟨n, i, none⟩ v) := ⟨fun _ _ => rfl, fun x hx => p.top x (by simpa using hx), Keep.set (S := fun x => col x = 1) p.one.2.1 w i v⟩
    have ng : n ≠ g := fun e => by obtain ⟨cur, hc⟩ := row_lt p.row (g := g) rfl; rw [← e] at hc; exact absurd (blk_type hc p.bn) (by decide)
    refine ⟨⟨(RowKit.Below.heap_setCell _ _ _ _ hn).trans p.bt, hb, row_keep p.row (fun x hx => by injection hx with hx; subst hx; exact RowKit.Below.heap_setCell _ _ _ _ ng.symm), by rw [hall]; exact p.len, fun f F r h1 h2 => ?_, p.one, G.top, hh⟩, G⟩
    rw [hall] at h2
    exact (p.fn f F r h1 h2).grew (Nat.le_succ _) G (fun u e => ⟨by rw [e]; unfold inF; omega, by omega⟩)
  have HKey := hid key
  have HBn := hid p.bn
  clear p key
  have w1 : IntKind.i64.wrap ((T.hits : Int) + 1) = ((T.hits + 1 : Nat) : Int) := by rw [IntKind.wrap_i64] <;> omega
  have w2 : IntKind.i64.wrap ((T.misses : Int) + 1) = ((T.misses + 1 : Nat) : Int) := by rw [IntKind.wrap_i64] <;> omega
  cases b with
  | true =>
    have R := hid (HKey.out 1 (.int .i64 ((T.hits : Int) + 1)) (hitT T) rfl ⟨by show T.hits + 1 ≤ K + 1; omega, by show T.misses ≤ K + 1; omega⟩ (by
      have h := blk_set HBn.out 1 (.int .i64 ((T.hits : Int) + 1))
      simp only [List.setIfInBounds_toArray, List.set_cons_zero, List.set_cons_succ] at h
      have e : ((T.hits + 1 : Nat) : Int) = (T.hits : Int) + 1 := by omega
      show Blk n 94 #[.slice (some ⟨g, 0, none⟩) fs.length cap, .int .i64 ((T.hits + 1 : Nat) : Int), .int .i64 (T.misses : Int)] _
      rw [e]
      exact h))
    clear HKey HBn hit
    go_enter Tryz.func55, Tryz.ntmps55
    go_wp2_with fail
    refine HM.out.mono ?_
    rintro e1 w1 ⟨rfl, rfl⟩
    go_wp2_with fail
    go_end0
    exact ⟨rfl, R.out⟩
  | false =>
    have R := hid (HKey.out 2 (.int .i64 ((T.misses : Int) + 1)) (missT T) rfl ⟨by show T.hits ≤ K + 1; omega, by show T.misses + 1 ≤ K + 1; omega⟩ (by
      have h := blk_set HBn.out 2 (.int .i64 ((T.misses : Int) + 1))
      simp only [List.setIfInBounds_toArray, List.set_cons_zero, List.set_cons_succ] at h
      have e : ((T.misses + 1 : Nat) : Int) = (T.misses : Int) + 1 := by omega
      show Blk n 94 #[.slice (some ⟨g, 0, none⟩) fs.length cap, .int .i64 (T.hits : Int), .int .i64 ((T.misses + 1 : Nat) : Int)] _
      rw [e]
      exact h))
    clear HKey HBn hit
    go_enter Tryz.func55, Tryz.ntmps55
    go_wp2_with fail
    refine HM.out.mono ?_
    rintro e1 w1 ⟨rfl, rfl⟩
    go_wp2_with fail
    go_end0
    exact ⟨rfl, R.out⟩
end
end Go.Proofs.YtimhgbcanmgajaaGreat
