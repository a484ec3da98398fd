/- A function's sites are made fresh, but those that are mega. Flush. -/
import Derived.Test.YtimhgbcanmgajaaGreatJoint19
import Derived.WalkKit
import Derived.Maps.Ext
import Derived.Maps.RangeWalk
import Derived.Laws.IdiomRangeMap
import Derived.Deep.LoopGhost
namespace Go.Proofs.YtimhgbcanmgajaaGreat
set_option linter.unusedSimpArgs false
set_option linter.unusedVariables false
set_option maxRecDepth 100000
open Go.RowKit Go.Maps

theorem sflush1_calls (w : World) (k : Int) (x : Nat) (b : Bool) (hb : w.cell? ⟨x, 3, none⟩ = some (.bool b)) (hx : x < w.heap.size) :
    Calls Tryz.prog 121 #[.int .i64 k, .pointer (some ⟨x, 0, none⟩)] w fun e w' => e = .returned (.bool (!b)) ∧ w' = w := by
  go_enter Tryz.func121, Tryz.ntmps121
  go_wp2_with fail
  go_ret
  exact ⟨rfl, rfl⟩
theorem own_sizeP {m n : Nat} {D : DataW Unit} {w : World} (h : w.ownsMap Tryz.prog 3 ptrE m n D) : Maps.size D ≤ n := by
  obtain ⟨es, clock, hb, F, hs, rfl⟩ := h
  simp [Maps.size, length_sorted]
  exact hs
/-- what is told of a map on the way -/
def Tell (f : Int → Option Nat) (pd : Int → Bool) (D : DataW Unit) (left : Lit → Bool) : Prop :=
  ∀ s : Int, I64 s → (left (litI s) = true → (f s).isSome = true) ∧ Maps.has D (litI s) = ((f s).isSome && (!pd s || left (litI s))) ∧ ∀ i, f s = some i → (!pd s || left (litI s)) = true → D.atKey (litI s) .nil = .lit (.int .i64 (i : Int))
theorem same_litI (s : Int) : (litI s).sameKey (litI s) = true := WideAt.sameKey_self (isKey_litI s)
theorem other_litI {s t : Int} (h : t ≠ s) : (litI t).sameKey (litI s) = false := by
  cases e : (litI t).sameKey (litI s) with
  | false => rfl
  | true => exact absurd (litI_inj (WideAt.sameKey_eq e)) h
theorem tell_start {f : Int → Option Nat} {pd : Int → Bool} {D : DataW Unit} (h : ∀ s : Int, I64 s → Maps.has D (litI s) = (f s).isSome ∧ ∀ i, f s = some i → D.atKey (litI s) .nil = .lit (.int .i64 (i : Int))) : Tell f pd D (Maps.has D) := fun s hs => by
  obtain ⟨h1, h2⟩ := h s hs
  refine ⟨fun e => by rw [← h1]; exact e, ?_, fun i hi _ => h2 i hi⟩
  rw [h1]
  cases (f s).isSome <;> simp
theorem tell_stay {f : Int → Option Nat} {pd : Int → Bool} {D : DataW Unit} {left : Lit → Bool} (h : Tell f pd D left) {s : Int} (hp : pd s = false) : Tell f pd D (fun z => left z && !z.sameKey (litI s)) := fun t ht => by
  obtain ⟨h1, h2, h3⟩ := h t ht
  by_cases e : t = s
  · subst e
    simp only [same_litI, Bool.not_true, Bool.and_false, hp, Bool.not_false, Bool.true_or, Bool.and_true] at h2 h3 ⊢
    exact ⟨fun e => (by cases e), h2, h3⟩
  · simp only [other_litI e, Bool.not_false, Bool.and_true]
    exact ⟨h1, h2, h3⟩
theorem tell_strike {f : Int → Option Nat} {pd : Int → Bool} {D : DataW Unit} {left : Lit → Bool} (h : Tell f pd D left) {s : Int} (hp : pd s = true) : Tell f pd (D.del (litI s)) (fun z => left z && !z.sameKey (litI s)) := fun t ht => by
  obtain ⟨h1, h2, h3⟩ := h t ht
  by_cases e : t = s
  · subst e
    refine ⟨fun e => ?_, ?_, fun i hi e => ?_⟩
    · simp [same_litI] at e
    · rw [Maps.has_del_same]; simp [same_litI, hp]
    · simp [same_litI, hp] at e
  · have hne : litI t ≠ litI s := fun e' => e (litI_inj e')
    simp only [other_litI e, Bool.not_false, Bool.and_true]
    exact ⟨h1, by rw [Maps.has_del_other hne]; exact h2, fun i hi e' => by rw [Maps.atKey_del_other hne]; exact h3 i hi e'⟩
set_option maxHeartbeats 4000000 in
theorem sdelf_calls (w : World) {m c : Nat} {f : Int → Option Nat} (M : MapP m f c w) (pd : Int → Bool) (hcell : ∀ s i, f s = some i → i < w.heap.size ∧ i ≠ m ∧ w.cell? ⟨i, 3, none⟩ = some (.bool (!pd s))) :
    Calls Tryz.prog 120 #[.map (some m), .func (.func 121) #[] #[]] w fun e w' => e = .returned (.tuple #[]) ∧ (∃ c', c' ≤ c ∧ MapP m (fun s => if pd s then none else f s) c' w') ∧ w.grownBy w' (some m) := by
  obtain ⟨D, hown, hsz, hf⟩ := M
  have HC := hid hcell
  have HT := hid (tell_start (pd := pd) hf)
  clear hcell hf
  go_enter Tryz.func120, Tryz.ntmps120
  go_wp2_with (first
    | (at_range; refine wpList_range_own _ rfl _ 95 rfl 3 136 keyI undC ptrE m c _ rfl hown ?_; intro w0 hrg0 hg0 hs0)
    | fail)
  go_frame
  go_loopw [8] (fun _ wr => ∃ (D' : DataW Unit) (left : Lit → Bool) (cnt : Nat), wr.ranges Tryz.prog 3 ptrE m w.heap.size c D' left cnt ∧ Hid (Tell f pd D' left) ∧ w.grownBy wr (some m))
    (fun _ wr => wr.rangeLeft m w.heap.size)
  case atStart => exact ⟨_, _, _, hrg0, HT, hg0.but _⟩
  case round =>
    rename World => wr
    obtain ⟨D', left, cnt, hrg, hT, hgw⟩ := hrel
    go_wp2_with (first
      | (at_next; refine wpList_next_ranges _ rfl _ rfl 3 keyI ptrE (Value.int .i64) id (fun key kl hk => by obtain ⟨x, rfl, _⟩ := Maps.keyOf_int_inv underIn hk; exact ⟨x, rfl⟩) (fun v _ _ => ⟨v, rfl⟩) m w.heap.size c _ _ _ rfl hrg ?_ ?_)
      | fail)
    · intro _ hl0
      go_wp2_with fail
      go_end0
      refine ⟨rfl, ⟨Maps.size D', own_sizeP hrg.owns, D', own_tightP hrg.owns, rfl, fun s hs => ?_⟩, hgw⟩
      obtain ⟨h1, h2, h3⟩ := hT.out s hs
      rw [h2, hl0]
      cases hp : pd s with
      | true =>
        refine ⟨by simp [hp], fun i hi => ?_⟩
        simp [hp] at hi
      | false =>
        refine ⟨by simp [hp], fun i hi => h3 i ?_ (by simp [hp])⟩
        simpa [hp] using hi
    · intro x v kl yd yp w1 cnt1 hkey hlx hv hat hrg1 hlt hg1 hs1 hen
      have hgw1 := hgw.andThen hg1 (fun j hj => by cases hj; exact Or.inl (Nat.le_refl _))
      obtain ⟨x', ex, rfl, hwx⟩ := Maps.keyOf_int_inv underIn hkey
      injection ex with _ ex
      subst ex
      have hI : I64 x := by
        have h' : IntKind.i64.min ≤ x ∧ x ≤ IntKind.i64.max := by simpa [Lit.wf] using hwx
        exact h'
      obtain ⟨h1, h2, h3⟩ := hT.out x hI
      obtain ⟨i, hi⟩ := Option.isSome_iff_exists.1 (h1 hlx)
      have hy : yd = .lit (.int .i64 (i : Int)) := (hat .nil).symm.trans (h3 i hi (by rw [show left (litI x) = true from hlx]; simp))
      subst hy
      have hv' : v = .pointer (some ⟨i, 0, none⟩) := ptrE_at hv
      subst hv'
      obtain ⟨k1, k2, k3⟩ := HC.out x i hi
      have KP := Keep.grown (S := fun z => z = m) hgw1 (fun j e => by injection e with e; exact e.symm)
      have k4 := hcell_keep k3 k1 KP k2
      have k5 := Nat.lt_of_lt_of_le k1 KP.size
      have HF := hid (sflush1_calls w1 x i (!pd x) k4 k5)
      have hbl := hrg1.owns.lt
      have hrl := hrg1.lt
      clear k1 k2 k3 k4 KP h1 h2 h3 hat hv hkey hwx
      cases hp : pd x with
      | false =>
        rw [hp] at HF
        have HT2 := hid (tell_stay hT.out hp)
        go_wp2_with fail
        refine HF.out.mono ?_
        rintro e w2 ⟨rfl, rfl⟩
        go_wp2_with fail
        go_roundw
        case rel => exact ⟨D', _, cnt1, hrg1, HT2, hgw1⟩
        case measure => rw [hrg1.left_eq, hrg.left_eq]; exact hlt
      | true =>
        rw [hp] at HF
        have HT2 := hid (tell_strike hT.out hp)
        go_wp2_with fail
        refine HF.out.mono ?_
        rintro e w2 ⟨rfl, rfl⟩
        go_wp2_with (first
          | (at_delete; refine wpList_delete_ranges _ rfl _ _ 95 3 rfl 136 keyI undC ptrE m w.heap.size c _ _ _ rfl hrg1 _ _ rfl (keyOf_litI hI) ?_; intro w3 cnt3 hrg3 hle hturn; go_frame)
          | fail)
        rw [show Lit.int IntKind.i64 x = litI x from rfl, strike_twice] at hrg3
        go_roundw
        case rel => exact ⟨_, _, cnt3, hrg3, HT2, hgw1.andThen hturn.grown (fun j hj => by cases hj; exact Or.inr rfl)⟩
        case measure => rw [hrg3.left_eq, hrg.left_eq]; omega
end Go.Proofs.YtimhgbcanmgajaaGreat

namespace Go.Proofs.YtimhgbcanmgajaaGreat
set_option linter.unusedSimpArgs false
set_option linter.unusedVariables false
set_option maxRecDepth 100000
open Go.RowKit Go.Maps

/-- a site behind a flush -/
def flS (t : St) : St := { st0 with mega := t.mega }
theorem flushT_fl {T : Tb} {f : Nat} {r : List St} (h : T.all[f]? = some r) : flushT T (f : Int) false = { T with all := T.all.set f (r.map flS) } := by
  rw [flushT_at false h]
  have e : (fun s : St => { st0 with mega := false || s.mega }) = flS := by
    funext s
    unfold flS
    rw [Bool.false_or]
  rw [e]
theorem flS_not {t : St} (h : t.mega = false) : flS t = st0 := by unfold flS; rw [h]; rfl
/-- which sites are struck -/
def pdR (r : List St) (k : Int) : Bool := match r[k.toNat]? with | some t => !t.mega | none => true
theorem pdR_at {r : List St} {k : Nat} {t : St} (h : r[k]? = some t) : pdR r (k : Int) = !t.mega := by unfold pdR; rw [Int.toNat_natCast, h]
set_option maxHeartbeats 1000000 in
theorem sdelf_nil (w : World) (fv : Value) :
    Calls Tryz.prog 120 #[.map none, fv] w fun e w' => e = .returned (.tuple #[]) ∧ Below w.heap.size w w' := by
  have hrg := run_range_nilMap (P := Tryz.prog) w 95 _ _ undC
  have hnx : ∀ ty, (Instr.next (.pointer (some ⟨w.heap.size, 0, none⟩)) false ty).run Tryz.prog (w.alloc (.mapIter none 0 #[] 0)) = _ := fun ty => run_next_nilMap _ ty 0 0 #[]
  have A := hid ((Below.refl w.heap.size w).alloc (Nat.le_refl _) (.mapIter none 0 #[] 0))
  go_enter Tryz.func120, Tryz.ntmps120
  go_wp2
  refine wp_loop_rounds 1 ?_
  rw [rounds_succ]
  go_wp2
  go_end0
  exact ⟨rfl, A.out⟩
section
variable {K s : Nat} {T : Tb} {tb n g cap : Nat} {fs : List Fm} {col : Nat → Nat}
theorem Grew.one_kept {w w' : World} {f : Nat} (p : TbAt K s T tb n g cap fs col w) (G : Grew (fun u => u = cM f) col col w w') : Blk tb 69 #[.pointer (some ⟨n, 0, none⟩)] w' ∧ Blk n 94 #[.slice (some ⟨g, 0, none⟩) fs.length cap, .int .i64 (T.hits : Int), .int .i64 (T.misses : Int)] w' ∧ w'.ownsRow 0 97 3 (.slice (some ⟨g, 0, none⟩) fs.length cap) fs.length (fs.map fmC).flatten := by
  have o := p.one
  have l := p.lt
  have n1 : ∀ b, col b = 1 → ¬ col b = cM f := fun b hb e => by unfold cM at e; omega
  refine ⟨blk_keep p.bt G.keep (n1 _ o.1), blk_keep p.bn G.keep (n1 _ o.2.1), row_keep p.row (fun b hb => ?_)⟩
  injection hb with hb
  subst hb
  exact G.keep.block g l.2.2 (n1 _ o.2.2)
set_option maxHeartbeats 2000000 in
theorem sflush_calls (w : World) (p : TbAt K s T tb n g cap fs col w) {f : Nat} {F : Fm} {r : List St} (hf : fs[f]? = some F) (hr : T.all[f]? = some r) (hme : ∀ t ∈ r, t.mega = true → t.l = []) :
    Calls Tryz.prog 69 #[.pointer (some ⟨g, f * 3, none⟩)] w fun e w' => e = .returned (.tuple #[]) ∧ (∃ fs', TbAt K s (flushT T (f : Int) false) tb n g cap fs' col w') ∧ Grew (fun u => u = cM f) col col w w' := by
  obtain ⟨z0, z1, z2⟩ := p.fcell hf
  obtain ⟨l0, l1, l2⟩ := p.lt
  have hF := p.fn f F r hf hr
  have hP2 : ∀ u, u = cM f → u ≠ 2 ∧ ∀ f', f' ≠ f → ¬ inF f' u := fun u hu => by subst hu; unfold cM inF; exact ⟨by omega, fun f' hf' => by omega⟩
  have hset : ∀ (cel : Int → Option Nat), (fs.set f ⟨F.count, F.mega, F.m, cel⟩).map fmC = fs.map fmC := fun cel => by
    rw [List.map_set]
    apply List.ext_getElem?
    intro j
    by_cases e : f = j
    · subst e
      rw [List.getElem?_set_self (by rw [List.length_map]; exact lt_of_get hf), List.getElem?_map, hf]
      rfl
    · rw [List.getElem?_set_ne e]
  rw [flushT_fl hr]
  cases hm : F.m with
  | none =>
    rw [hm] at z2
    have HN := hid (sdelf_nil w (.func (.func 121) #[] #[]))
    have HQ : Hid (∀ w', Below w.heap.size w w' → (∃ fs', TbAt K s { T with all := T.all.set f (r.map flS) } tb n g cap fs' col w') ∧ Grew (fun u => u = cM f) col col w w') := hid (fun w' b => by
      have G : Grew (fun u => u = cM f) col col w w' := Grew.below b p.top
      obtain ⟨k1, k2, k3⟩ := Grew.one_kept p G
      refine ⟨⟨_, p.chg (F' := ⟨F.count, F.mega, F.m, F.cel⟩) (Nat.le_refl _) hf hr G hP2 k1 k2 (by rw [hset]; exact k3) ⟨by rw [List.length_map]; exact hF.cnt, hF.big, fun m h => (by rw [hm] at h; cases h), hF.nil, hF.dom, fun hg t ht => ?_, hF.mnil, fun hg k t ht hc => ?_, fun hg k t x ht hc => ?_⟩⟩, G⟩
      · obtain ⟨t', ht', rfl⟩ := List.mem_map.1 ht
        exact hF.meg hg t' ht'
      · rw [List.getElem?_map] at ht
        cases hrk : r[k]? with
        | none => rw [hrk] at ht; cases ht
        | some t' =>
          rw [hrk] at ht
          injection ht with ht
          rw [← ht, hF.old hg k t' hrk (hF.nil hm _)]
          rfl
      · have hc' : F.cel (k : Int) = some x := hc
        rw [hF.nil hm] at hc'
        cases hc')
    clear p hF hset hP2 hr hme
    go_enter Tryz.func69, Tryz.ntmps69
    go_wp2_with fail
    refine HN.out.mono ?_
    rintro e1 w1 ⟨rfl, b1⟩
    have R := hid (HQ.out w1 b1)
    clear b1 HN HQ
    go_wp2_with fail
    go_end0
    exact ⟨rfl, R.out⟩
  | some m =>
    rw [hm] at z2
    have hg : F.mega = false := by
      cases e : F.mega with
      | false => rfl
      | true => rw [hF.mnil e] at hm; cases hm
    obtain ⟨⟨c, M, hc⟩, hcol⟩ := hF.map m hm
    have at_ : ∀ k x, F.cel k = some x → ∃ (j : Nat) (t : St), k = j ∧ r[j]? = some t ∧ CeS s f j x t col w := fun k x h => by
      have hd := hF.dom k x h
      have hl := hF.cnt
      have hj : k.toNat < r.length := by omega
      refine ⟨k.toNat, r[k.toNat], by omega, List.getElem?_eq_getElem hj, ?_⟩
      exact (hF.new hg k.toNat _ x (List.getElem?_eq_getElem hj) (by rw [show ((k.toNat : Nat) : Int) = k by omega]; exact h)).1
    have HD := hid (sdelf_calls w M (pdR r) (fun k i hi => by
      obtain ⟨j, t, rfl, ht, v, l, C, _⟩ := at_ k i hi
      have hb := C.blk
      refine ⟨blk_lt hb, fun e => ?_, ?_⟩
      · obtain ⟨es, cl, hmb⟩ := mapP_block M
        rw [← e] at hmb
        rw [show w.heap[i]? = _ from hb] at hmb
        cases hmb
      · have h3 := blk_cell hb 3
        rw [pdR_at ht, Bool.not_not, h3]
        unfold ceC
        cases t.mega <;> rfl))
    have HQ : Hid (∀ w', (∃ c', c' ≤ c ∧ MapP m (fun k => if pdR r k then none else F.cel k) c' w') → w.grownBy w' (some m) → (∃ fs', TbAt K s { T with all := T.all.set f (r.map flS) } tb n g cap fs' col w') ∧ Grew (fun u => u = cM f) col col w w') := hid (fun w' ⟨c', hc', M'⟩ gr => by
      have kp : Keep (fun b => col b = cM f) w w' := Keep.grown gr (fun j e => by injection e with e; subst e; exact hcol)
      have G : Grew (fun u => u = cM f) col col w w' := ⟨fun _ _ => rfl, fun x hx => p.top x (Nat.le_trans kp.size hx), kp⟩
      obtain ⟨k1, k2, k3⟩ := Grew.one_kept p G
      refine ⟨⟨_, p.chg (F' := ⟨F.count, F.mega, F.m, fun k => if pdR r k then none else F.cel k⟩) (Nat.le_refl _) hf hr G hP2 k1 k2 (by rw [hset]; exact k3) ⟨by rw [List.length_map]; exact hF.cnt, hF.big, fun m' h => ?_, fun h => ?_, fun k x h => ?_, fun hg' => ?_, fun hg' => ?_, fun _ k t ht hcn => ?_, fun _ k t x ht hcs => ?_⟩⟩, G⟩
      · have h' : F.m = some m' := h
        rw [hm] at h'
        injection h' with h'
        subst h'
        exact ⟨⟨c', M', by omega⟩, hcol⟩
      · have h' : F.m = none := h
        rw [hm] at h'
        cases h'
      · have h' : (if pdR r k then none else F.cel k) = some x := h
        by_cases e : pdR r k = true
        · rw [if_pos e] at h'; cases h'
        · rw [if_neg e] at h'; exact hF.dom k x h'
      · exact absurd (show F.mega = true from hg') (by rw [hg]; decide)
      · exact absurd (show F.mega = true from hg') (by rw [hg]; decide)
      · have h' : (if pdR r (k : Int) then none else F.cel (k : Int)) = none := hcn
        rw [List.getElem?_map] at ht
        cases hrk : r[k]? with
        | none => rw [hrk] at ht; cases ht
        | some t' =>
          rw [hrk] at ht
          injection ht with ht
          rw [pdR_at hrk] at h'
          rw [← ht]
          cases hmt : t'.mega with
          | false => exact flS_not hmt
          | true =>
            rw [hmt] at h'
            rw [if_neg (by decide)] at h'
            have h0 := hF.old hg k t' hrk h'
            rw [h0] at hmt
            cases hmt
      · have h' : (if pdR r (k : Int) then none else F.cel (k : Int)) = some x := hcs
        rw [List.getElem?_map] at ht
        cases hrk : r[k]? with
        | none => rw [hrk] at ht; cases ht
        | some t' =>
          rw [hrk] at ht
          injection ht with ht
          rw [pdR_at hrk] at h'
          cases hmt : t'.mega with
          | false => rw [hmt, if_pos (by decide)] at h'; cases h'
          | true =>
            rw [hmt] at h'
            rw [if_neg (by decide)] at h'
            have hx : F.cel (k : Int) = some x := h'
            have hmt' : t.mega = true := by rw [← ht]; exact hmt
            obtain ⟨v, l, C, q1, q2, q3⟩ := ((hF.new hg k t' x hrk hx).1).grew G (fun u hu => by
              have := hF.dom _ x hx
              have := hF.big
              rw [hu]
              unfold cM cS
              omega)
            refine ⟨⟨v, l, ⟨?_, C.row, ?_, C.dps⟩, q1, q2, q3⟩, .inr hmt'⟩
            · have hb := C.blk
              unfold ceC at hb ⊢
              rw [hmt] at hb
              rw [hmt']
              exact hb
            · rw [C.es, hme t' (List.mem_of_getElem? hrk) hmt, ← ht]
              rfl)
    clear p hF hset hP2 hr hme at_ M
    go_enter Tryz.func69, Tryz.ntmps69
    go_wp2_with fail
    refine HD.out.mono ?_
    rintro e1 w1 ⟨rfl, h1, h2⟩
    have R := hid (HQ.out w1 h1 h2)
    clear h1 h2 HD HQ
    go_wp2_with fail
    go_end0
    exact ⟨rfl, R.out⟩
theorem sflushT_calls {H : He} (w : World) (p : TbAt K s T tb n g cap fs col w) (ok : TbOk H T) (f : Int) :
    Calls Tryz.prog 25 #[.pointer (some ⟨tb, 0, none⟩), .int .i64 f] w fun e w' => e = .returned (.tuple #[]) ∧ (∃ fs', TbAt K s (flushT T f false) tb n g cap fs' col w') ∧ Grew (fun u => u ≠ 0) col col w w' := by
  by_cases h : f < 0 ∨ (fs.length : Int) ≤ f
  · have H1 := hid (sfun_none w p h)
    have HP := hid (show TbAt K s (flushT T f false) tb n g cap fs col w from by rw [flushT_out false (by rw [← p.len]; exact h)]; exact p)
    clear p h
    go_enter Tryz.func25, Tryz.ntmps25
    go_wp2_with fail
    refine H1.out.mono ?_
    rintro e1 w1 ⟨rfl, rfl⟩
    go_wp2_with fail
    go_end0
    exact ⟨rfl, ⟨fs, HP.out⟩, ⟨fun _ _ => rfl, HP.out.top, Keep.refl _ _⟩⟩
  · obtain ⟨i, rfl⟩ : ∃ i : Nat, f = i := ⟨f.toNat, by omega⟩
    have hi : i < fs.length := by omega
    have hF := List.getElem?_eq_getElem hi
    have hR := List.getElem?_eq_getElem (show i < T.all.length by rw [← p.len]; exact hi)
    have H1 := hid (sfun_some w p hi)
    have H2 := hid (sflush_calls w p hF hR (fun t ht hm => (ok _ (List.mem_of_getElem? hR) t ht).mega hm))
    clear p h hF hR
    go_enter Tryz.func25, Tryz.ntmps25
    go_wp2_with fail
    refine H1.out.mono ?_
    rintro e1 w1 ⟨rfl, rfl⟩
    go_wp2_with fail
    refine H2.out.mono ?_
    rintro e2 w2 ⟨rfl, q, G⟩
    have HQ := hid (And.intro q (show Grew (fun u => u ≠ 0) col col w1 w2 from G.mono (fun t e => by have e' : t = cM i := e; rw [e']; unfold cM; omega)))
    clear q G H1 H2
    go_wp2_with fail
    go_end0
    exact ⟨rfl, HQ.out.1, HQ.out.2⟩
end
end Go.Proofs.YtimhgbcanmgajaaGreat
