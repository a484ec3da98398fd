/- Set at a site. -/
import Derived.Test.YtimhgbcanmgajaaGreatSiGet
import Derived.Test.YtimhgbcanmgajaaGreatHpSet
namespace Go.Proofs.YtimhgbcanmgajaaGreat
set_option linter.unusedSimpArgs false
set_option linter.unusedVariables false
set_option maxRecDepth 100000
open Go.RowKit

def setK (H : He) (o : Int) (nm : ByteArray) (v : Vl) (t : St) : St := match setN H o nm v with | some e => keepS t e | none => t
theorem setK_some {H : He} {o : Int} {nm : ByteArray} {v : Vl} {en : En} (h : setN H o nm v = some en) (t : St) : setK H o nm v t = keepS t en := by unfold setK; rw [h]
theorem setK_none {H : He} {o : Int} {nm : ByteArray} {v : Vl} (h : setN H o nm v = none) (t : St) : setK H o nm v t = t := by unfold setK; rw [h]
theorem setT_no {H : He} {T : Tb} {f k o : Int} {nm : ByteArray} {v : Vl} (h : shapeH H o = 0 ∨ playsT T f k 2 nm = false) : setT H T f k o nm v = missT (if shapeH H o = 0 then T else partT T f k 2 nm) := by
  unfold setT partT
  by_cases h0 : shapeH H o = 0
  · rw [if_pos h0, if_pos h0]
  · rw [if_neg h0, if_neg h0]
    have h1 : playsT T f k 2 nm = false := h.resolve_left h0
    unfold playsT at h1
    cases hs : siteT T f k with
    | none => rfl
    | some t =>
      rw [hs] at h1
      dsimp only at h1 ⊢
      cases hm : t.mega with
      | true => rw [if_pos rfl, if_pos rfl]
      | false => rw [if_neg (by decide), if_pos h1, if_neg (by decide)]
theorem setT_yes {H : He} {T : Tb} {f k o : Int} {nm : ByteArray} {v : Vl} {t : St} (h0 : shapeH H o ≠ 0) (hs : siteT T f k = some t) (hp : playsS t 2 nm = true) :
    setT H T f k o nm v = match findE (fixS t 2 nm).l (shapeH H o) with
      | some i => hitT (putT T f k (fixS t 2 nm))
      | none => missT (putT T f k (setK H o nm v (fixS t 2 nm))) := by
  have hm := (plays_is hp).1
  unfold setT
  rw [if_neg h0, hs]
  dsimp only
  rw [hm, if_neg (by decide), if_neg (by rw [hp]; decide)]
  unfold setK
  cases findE (fixS t 2 nm).l (shapeH H o) with
  | none =>
    dsimp only
    cases setN H o nm v with
    | none => rfl
    | some e => dsimp only; rw [putT_putT]
  | some i => rfl
theorem setK_as (H : He) (o : Int) (nm : ByteArray) (v : Vl) (t : St) : (setK H o nm v t).as' = t.as' := by
  unfold setK keepS
  split
  · split
    · rfl
    · split <;> rfl
  · rfl
/-- the entry that a set makes, told from behind it -/
theorem became_eq {K : Nat} {H : He} (W : WfH K H) {o : Int} {nm : ByteArray} (v : Vl) (h0 : shapeH H o ≠ 0) (he : setE H o nm = 0) (hto : shapeH (setH H o nm v) o ≠ 0) :
    setN H o nm v = some (if shapeH H o = shapeH (setH H o nm v) o then ⟨shapeH H o, 0, slotofH (setH H o nm v) (shapeH H o) nm, 0, []⟩ else ⟨shapeH H o, 0, 0, shapeH (setH H o nm v) o, []⟩) := by
  obtain ⟨x, hx, x1, x2, x3⟩ := shape_ob h0
  have hx0 : x.sh ≠ 0 := by rw [x1]; exact h0
  unfold setN
  rw [if_neg (by rintro (h | h); exact h he; exact hto h)]
  rcases slotofH_at W hx hx0 nm with ⟨k, u, h1, h2, h3, h4⟩ | ⟨h1, h2, h3⟩
  · have hh : hasL x.l nm = true := hasL_iff.2 ⟨(nm, u), List.mem_of_getElem? h2, rfl⟩
    have e1 : setH H o nm v = putO H o { x with l := setL x.l nm v } := by unfold setH; rw [hx]; dsimp only; rw [if_pos hh]
    have e2 : shapeH (setH H o nm v) o = shapeH H o := by
      rw [e1, ← x1]
      unfold shapeH
      rw [getO_putO hx, if_pos rfl]
    have e3 : slotofH (setH H o nm v) (shapeH H o) nm = slotofH H (shapeH H o) nm := by rw [e1]; rfl
    rw [x1] at h1
    rw [e2, if_pos rfl, e3, if_pos (by omega)]
  · have hf : hasL x.l nm = false := by
      cases hh : hasL x.l nm with
      | false => rfl
      | true =>
        obtain ⟨e, he, h4⟩ := hasL_iff.1 hh
        exact absurd h4 (look_none.1 h3 e he)
    have hroom : ¬ H.props ≤ x.l.length := by
      unfold setE at he
      rw [hx] at he
      dsimp only at he
      rw [if_neg (by rw [hf]; decide)] at he
      split at he
      · cases he
      · assumption
    have e1 : setH H o nm v = putO (nextH H x.sh nm) o { x with l := x.l ++ [(nm, v)], ep := x.ep + 1, sh := nextN H x.sh nm } := by
      unfold setH
      rw [hx]
      dsimp only
      rw [if_neg (by rw [hf]; decide), if_neg hroom]
    have eto : shapeH (setH H o nm v) o = nextN H x.sh nm := by
      rw [e1]
      unfold shapeH
      rw [getO_putO (by rw [getO_next]; exact hx), if_pos rfl]
    obtain ⟨ns, hns, _⟩ := (W.at' hx).sh hx0
    have enx : nextN H x.sh nm = addN H.M H.L x.sh (numT H.N nm : Int) := by unfold nextN; rw [hns]
    have hne : addN H.M H.L x.sh (numT H.N nm : Int) ≠ 0 := by rw [← enx, ← eto]; exact hto
    obtain ⟨hgs, hnin⟩ := add_spec W.wfs hns hne
    have hst : getS (addL H.M H.L x.sh (numT H.N nm : Int)) x.sh = some ((x.pr : Int), ns) := by
      obtain ⟨i, hi, hg⟩ := getS_some hns
      rw [hi, getS_succ]
      exact addL_stay hg
    have hd : shapeH H o ≠ shapeH (setH H o nm v) o := fun e => by
      rw [eto, enx, ← x1] at e
      rw [← e, hst] at hgs
      injection hgs with hgs
      injection hgs with _ hgs
      have := congrArg List.length hgs
      simp at this
    rw [x1] at h1
    rw [if_neg hd, if_neg (by omega)]
theorem putsite_miss (T : Tb) (f k : Int) (a b : St) : putT (missT (putT T f k a)) f k b = missT (putT T f k b) := put_miss T f k a b
set_option maxHeartbeats 8000000 in
theorem sset_calls {S : Nat → Prop} {K J h s tb : Nat} {H : He} {T : Tb} (w : World) (p : Pr (fun S w => HpZ S J h s H w) (fun S w => TbZ S K tb s T w) S w) (ok : TbOk H T) (hK : K ≤ 800000) (h40 : 40 ≤ J) (hJ : J ≤ 800000) (f k o : Int) (nm : ByteArray) (hn : nm.size ≤ 1000000) (v : Vl) :
    Calls Tryz.prog 21 #[.pointer (some ⟨tb, 0, none⟩), .pointer (some ⟨h, 0, none⟩), .int .i64 f, .int .i64 k, .int .i64 o, .string nm, vlV v] w fun e w' => e = .returned (.int .i64 (setE H o nm)) ∧
      Pr (fun S w => HpZ S (J + 1) h s (setH H o nm v) w) (fun S w => TbZ S (K + 2) tb s (setT H T f k o nm v) w) (Up S w) w' ∧ Keep S w w' := by
  obtain ⟨U, V, ha, ⟨n, g, cap, fs, col, q, hs⟩, d, i⟩ := p
  have g0 : GW S U J h s H col col w w := GW.start ha q hs d i
  have W := hid ha.s.wf
  have A := (Below.refl w.heap.size w).alloc (Nat.le_refl _) (Obj.cells #[.int .i64 v.1, .int .i64 v.2.1, .string v.2.2] 37)
  have hq := blk_new w 37 #[.int .i64 v.1, .int .i64 v.2.1, .string v.2.2]
  have HP := hid (stpart_calls _ (q.on A) (ha.on A).s ok (by omega) f k o (a := 2) (.inr rfl) nm)
  rw [show decide ((2 : Int) = 2) = true from rfl] at HP
  have HG1 := hid (g0.on A)
  have HB1 := hid hq
  have hUx : ¬ U w.heap.size := fun e => by have := (i _ (.inl e)).2; omega
  have HUX := hid hUx
  have hc0 : col w.heap.size = 0 := q.top _ (Nat.le_refl _)
  clear ha q d i hs g0 A hq hUx
  generalize hW : w.alloc (Obj.cells #[.int .i64 v.1, .int .i64 v.2.1, .string v.2.2] 37) = w1 at *
  unfold vlV
  generalize hz : setE H o nm = u
  have HZ := hid hz
  clear hz
  go_enter Tryz.func21, Tryz.ntmps21
  go_wp2_with fail
  refine HP.out.mono ?_
  rintro e1 w2 ⟨fs2, col2, q2, G2, ⟨hno, rfl⟩ | ⟨hsh, hpl, fi, kj, x, F2, rfl, rfl, hF2, hg2, hx2, rfl⟩⟩
  · have HG2 := hid (HG1.out.step G2 (fun u h => h.1))
    have hlw : w.heap.size < w1.heap.size := blk_lt HB1.out
    have HB2 := hid (blk_keep HB1.out G2.keep (fun e => e.1 hc0))
    have HN := hid (sknown_nil w2 (.pointer (some ⟨h, 0, none⟩)) o)
    have HQ2 := hid q2
    have HE : Hid (setT H T f k o nm v = missT (if shapeH H o = 0 then T else partT T f k 2 nm)) := hid (setT_no hno)
    have c2 : col2 w.heap.size = 0 := by rw [G2.old _ hlw]; exact hc0
    clear G2 q2 hno HP HB1 HG1 hW
    go_wp2_with fail
    refine HN.out.mono ?_
    rintro e3 w3 ⟨rfl, b3⟩
    have b3' := below_on b3 ((Below.refl w3.heap.size w3).alloc (Nat.le_refl _) (Obj.cells #[.int .i64 0, .int .i64 0, .int .i64 0, .int .i64 0, .slice none 0 0, .pointer none] 141))
    have HG3 := hid (HG2.out.on b3')
    have HB3 := hid (blk_on HB2.out b3')
    have HNo := hid (snote_calls _ (HQ2.out.on b3') (by omega) false)
    have lB := blk_lt HB3.out
    clear b3 b3' HN HG2 HB2 HQ2
    go_wp2_with fail
    refine HNo.out.mono ?_
    rintro e4 w4 ⟨rfl, q4, G4⟩
    have HG4 := hid (HG3.out.step G4 (fun u h => by omega))
    have HB4 := hid (blk_keep HB3.out G4.keep (fun e => by have e' : col2 w.heap.size = 1 := e; omega))
    have HQ4 := hid q4
    clear q4 G4 HNo HG3 HB3
    have HS1 := hid (hshape_calls w4 HG4.out.hp.s o)
    go_wp2_with fail
    refine HS1.out.mono ?_
    rintro e5 w5 ⟨rfl, b5⟩
    have HG5 := hid (HG4.out.on b5)
    have HB5 := hid (blk_on HB4.out b5)
    have HQ5 := hid (HQ4.out.on b5)
    have HSe := hid (hset_z w5 HG5.out.hp h40 (by omega) o nm hn v)
    unfold vlV at HSe
    rw [HZ.out] at HSe
    obtain ⟨f1, c1, l1⟩ := blk_own HB5.out
    clear b5 HS1 HG4 HB4 HQ4
    go_wp2_with fail
    refine HSe.out.mono ?_
    rintro e6 w6 ⟨rfl, p6, k6⟩
    obtain ⟨g6, G6⟩ := HG5.out.heap p6 k6
    have HG6 := hid g6
    have HQ6 := hid (HQ5.out.same (Nat.le_refl _) G6 (fun _ h => h))
    have HS2 := hid (hshape_calls w6 g6.hp.s o)
    clear p6 k6 g6 G6 HSe HG5 HB5 HQ5 f1 c1 l1
    go_wp2_with fail
    refine HS2.out.mono ?_
    rintro e7 w7 ⟨rfl, b7⟩
    have HG7 := hid (HG6.out.on b7)
    have HQ7 := hid (HQ6.out.on b7)
    clear b7 HS2 HG6 HQ6
    generalize shapeH (setH H o nm v) o = sh2 at *
    go_wp2_with fail
    go_ret
    refine ⟨rfl, ?_⟩
    rw [HE.out]
    have q8 := HQ7.out
    rw [if_neg (by decide)] at q8
    exact HG7.out.fin q8
  · obtain ⟨t, hst, hpt⟩ : ∃ t, siteT T (fi : Int) (kj : Int) = some t ∧ playsS t 2 nm = true := by
      unfold playsT at hpl
      cases hst : siteT T (fi : Int) (kj : Int) with
      | none => rw [hst] at hpl; cases hpl
      | some t => rw [hst] at hpl; exact ⟨t, rfl, hpl⟩
    obtain ⟨i', j', r, hi', hj', hR, hT⟩ := siteT_some hst
    obtain rfl : fi = i' := by omega
    obtain rfl : kj = j' := by omega
    obtain ⟨pm, pa, pn⟩ := plays_is hpt
    have hok := ok r (List.mem_of_getElem? hR) t (List.mem_of_getElem? hT)
    have hokU := fixS_ok hok (a := 2) (.inr rfl) nm
    have hpT : (if shapeH H o = 0 then T else partT T (fi : Int) (kj : Int) 2 nm) = putT T (fi : Int) (kj : Int) (fixS t 2 nm) := by
      rw [if_neg hsh]
      unfold partT
      rw [hst]
      dsimp only
      rw [if_neg (by rw [pm]; decide)]
    rw [hpT] at q2
    have hkj : kj < r.length := lt_of_get hT
    have hil : fi < T.all.length := lt_of_get hR
    have HE0 := hid (setT_yes (v := v) hsh hst hpt)
    have HGH : Hid (∀ (i : Nat) (e : En), findE (fixS t 2 nm).l (shapeH H o) = some i → (fixS t 2 nm).l[i]? = some e → (e.to = 0 → setE H o nm = 0 ∧ setH H o nm v = putH H o e.slot v ∧ putB H o e.slot = true) ∧ (e.to ≠ 0 → setE H o nm = growE H o e.to ∧ setH H o nm v = growH H o e.to v)) := hid (fun i e h1 h2 => set_hit v W.out ok hst hpt h1 h2)
    have hAll : Hid ((putT T (fi : Int) (kj : Int) (fixS t 2 nm)).all[fi]? = some (r.set kj (fixS t 2 nm))) := hid (by rw [putT_at hR]; exact List.getElem?_set_self hil)
    have hmu : Hid ((fixS t 2 nm).mega = false) := hid ((fix_mega t 2 nm).trans pm)
    have fewu : Hid ((fixS t 2 nm).l.length ≤ 4) := hid hokU.few
    have hua : Hid ((fixS t 2 nm).as' = 2) := hid pa
    clear hokU hok pm pa pn hpt hst hpl hpT hT
    have HG2 := hid (HG1.out.step G2 (fun u h => h.1))
    have hlw : w.heap.size < w1.heap.size := blk_lt HB1.out
    have HB2 := hid (blk_keep HB1.out G2.keep (fun e => e.1 hc0))
    have c2 : col2 w.heap.size = 0 := by rw [G2.old _ hlw]; exact hc0
    generalize fixS t 2 nm = uu at *
    obtain ⟨⟨kv, l, C, cx, cv, cd⟩, _⟩ := q2.cell hF2 hg2 hx2 (r := r.set kj uu) (t := uu) hAll.out (List.getElem?_set_self hkj)
    have HKn := hid (sknown_calls w2 C fewu.out HG2.out.hp o)
    have HC := hid C
    have HQ2 := hid q2
    clear G2 q2 HP HB1 HG1 hW C cx cv cd
    go_wp2_with fail
    refine HKn.out.mono ?_
    rintro e3 w3 ⟨b3, ⟨hf, rfl⟩ | ⟨qi, p, hf, hp, hup, rfl⟩⟩
    · have b3' := below_on b3 ((Below.refl w3.heap.size w3).alloc (Nat.le_refl _) (Obj.cells #[.int .i64 0, .int .i64 0, .int .i64 0, .int .i64 0, .slice none 0 0, .pointer none] 141))
      have HGA := hid (HG2.out.on b3')
      have HBA := hid (blk_on HB2.out b3')
      have HQA := hid (HQ2.out.on b3')
      have lB := blk_lt HBA.out
      have HE : Hid (setT H T (fi : Int) (kj : Int) o nm v = missT (putT T (fi : Int) (kj : Int) (setK H o nm v uu))) := hid (by rw [HE0.out, hf])
      clear b3 b3' HG2 HB2 HQ2 HE0 hf HKn
      have HNo := hid (snote_calls _ HQA.out (by omega) false)
      clear HQA
      go_wp2_with fail
      refine HNo.out.mono ?_
      rintro e4 w4 ⟨rfl, q4, G4⟩
      have HG4 := hid (HGA.out.step G4 (fun u h => by omega))
      have HB4 := hid (blk_keep HBA.out G4.keep (fun e => by have e' : col2 w.heap.size = 1 := e; omega))
      have HQ4 := hid q4
      have HSH := hid hsh
      clear q4 G4 HNo HGA HBA hsh
      have HS1 := hid (hshape_calls w4 HG4.out.hp.s o)
      go_wp2_with fail
      refine HS1.out.mono ?_
      rintro e5 w5 ⟨rfl, b5⟩
      have HG5 := hid (HG4.out.on b5)
      have HB5 := hid (blk_on HB4.out b5)
      have HQ5 := hid (HQ4.out.on b5)
      have HSe := hid (hset_z w5 HG5.out.hp h40 (by omega) o nm hn v)
      unfold vlV at HSe
      rw [HZ.out] at HSe
      obtain ⟨f1, c1, l1⟩ := blk_own HB5.out
      clear b5 HS1 HG4 HB4 HQ4
      go_wp2_with fail
      refine HSe.out.mono ?_
      rintro e6 w6 ⟨rfl, p6, k6⟩
      obtain ⟨g6, G6⟩ := HG5.out.heap p6 k6
      have HG6 := hid g6
      have HQ6 := hid (HQ5.out.same (Nat.le_refl _) G6 (fun _ h => h))
      have HS2 := hid (hshape_calls w6 g6.hp.s o)
      clear p6 k6 g6 G6 HSe HG5 HB5 HQ5 f1 c1 l1
      go_wp2_with fail
      refine HS2.out.mono ?_
      rintro e7 w7 ⟨rfl, b7⟩
      have HG7 := hid (HG6.out.on b7)
      have HQ7 := hid (HQ6.out.on b7)
      clear b7 HS2 HG6 HQ6
      have HBc := hid (sbecame_calls w7 HG7.out.hp (shapeH H o) (shapeH (setH H o nm v) o) nm hn)
      have HBE := hid (fun (h1 : setE H o nm = 0) (h2 : shapeH (setH H o nm v) o ≠ 0) => became_eq W.out v HSH.out h1 h2)
      have HNE : Hid (setE H o nm ≠ 0 ∨ shapeH (setH H o nm v) o = 0 → setN H o nm v = none) := hid (fun h => by unfold setN; rw [if_pos h])
      rw [HZ.out] at HBE HNE
      by_cases hue : u = 0
      · by_cases h2 : shapeH (setH H o nm v) o = 0
        · have HK0 : Hid (setK H o nm v uu = uu) := hid (setK_none (HNE.out (.inr h2)) uu)
          rw [h2]
          have HU := hid hue
          subst hue
          clear HBc HBE HNE h2
          go_wp2_with fail
          go_ret
          refine ⟨rfl, ?_⟩
          rw [HE.out, HK0.out]
          have q8 := HQ7.out
          rw [if_neg (by decide)] at q8
          exact HG7.out.fin q8
        · have hEN := HBE.out hue h2
          have C7 := (HQ7.out.cell hF2 hg2 hx2 (r := r.set kj uu) (t := uu) hAll.out (List.getElem?_set_self hkj)).1
          have HK1 : Hid (setK H o nm v uu = keepS uu (if shapeH H o = shapeH (setH H o nm v) o then ⟨shapeH H o, 0, slotofH (setH H o nm v) (shapeH H o) nm, 0, []⟩ else ⟨shapeH H o, 0, 0, shapeH (setH H o nm v) o, []⟩)) := hid (setK_some hEN uu)
          have hpos : (0 : Int) < (shapeH (setH H o nm v) o : Int) := by omega
          generalize hen : (if shapeH H o = shapeH (setH H o nm v) o then (⟨shapeH H o, 0, slotofH (setH H o nm v) (shapeH H o) nm, 0, []⟩ : En) else ⟨shapeH H o, 0, 0, shapeH (setH H o nm v) o, []⟩) = en at *
          have hdeps : en.deps = [] := by rw [← hen]; split <;> rfl
          have HC7 := hid C7
          have HD7 := hid hdeps
          have HU := hid hue
          subst hue
          clear HBE HNE hEN hen C7 hdeps h2
          generalize shapeH (setH H o nm v) o = sh2 at *
          generalize shapeH H o = sh1 at *
          go_wp2_with fail
          refine HBc.out.mono ?_
          rintro e8 w8 ⟨rfl, b8⟩
          have HG8 := hid (HG7.out.on b8)
          have HQ8 := hid (HQ7.out.on b8)
          have HKp := hid (skeep_calls w8 (HC7.out.grew (P := fun _ => False) (Grew.below b8 HG7.out.top) (fun _ h => h.elim)) hmu.out fewu.out en (.slice none 0 0) (by rw [DpV, HD7.out]; exact World.ownsRow_nil _ _ _ _) (fun b hb => by simp [Value.ownBlock] at hb))
          unfold keV at HKp ⊢
          dsimp only at HKp ⊢
          clear b8 HG7 HQ7 HBc HC7
          go_wp2_with fail
          refine HKp.out.mono ?_
          rintro e9 w9 ⟨rfl, C9, K9⟩
          have HG9 := hid (HG8.out.step (grew_ext K9) (fun u h => by rw [h]; unfold cS; omega))
          have HQ9 := hid (HQ8.out.site hF2 (r := r.set kj uu) hAll.out (by rw [List.length_set]; exact hkj) hg2 hx2 (grew_ext K9) (fun u h => h) C9 (.inl (by rw [← HK1.out, setK_as, hua.out]; decide)))
          clear C9 K9 HKp HG8 HQ8
          go_wp2_with fail
          go_ret
          refine ⟨rfl, ?_⟩
          rw [HE.out, HK1.out]
          have q8 := HQ9.out
          rw [if_neg (by decide), put_miss] at q8
          exact HG9.out.fin q8
      · have HK0 : Hid (setK H o nm v uu = uu) := hid (setK_none (HNE.out (.inl hue)) uu)
        have hb : (u == 0) = false := by simpa using hue
        clear HBc HBE HNE hue
        generalize shapeH (setH H o nm v) o = sh2 at *
        go_wp2_with fail
        go_ret
        refine ⟨rfl, ?_⟩
        rw [HE.out, HK0.out]
        have q8 := HQ7.out
        rw [if_neg (by decide)] at q8
        exact HG7.out.fin q8
    · obtain ⟨⟨sh, ho, sl, to, ds⟩, dv⟩ := p
      have D := HC.out.dps _ (List.mem_of_getElem? hp)
      obtain ⟨ao, dcap, hdv⟩ := D.shape
      dsimp only at hdv
      subst hdv
      obtain ⟨W4, hW4⟩ : ∃ W4, W4 = w3.alloc (Obj.cells #[.int .i64 (sh : Int), .int .i64 ho, .int .i64 sl, .int .i64 (to : Int), .slice ao ds.length dcap, .pointer (some ⟨s, 0, none⟩)] 141) := ⟨_, rfl⟩
      have b4 : Below w3.heap.size w3 W4 := by rw [hW4]; exact (Below.refl _ _).alloc (Nat.le_refl _) _
      have b3' := below_on b3 b4
      have H30 := hid (HG2.out.top w3.heap.size b3.size)
      have HGA := hid (HG2.out.on b3')
      have HBA := hid (blk_on HB2.out b3')
      have HQA := hid (HQ2.out.on b3')
      have hb4 : Blk w3.heap.size 141 #[.int .i64 (sh : Int), .int .i64 ho, .int .i64 sl, .int .i64 (to : Int), .slice ao ds.length dcap, .pointer (some ⟨s, 0, none⟩)] W4 := by rw [hW4]; exact blk_new _ _ _
      have HBk := hid hb4
      have HW4 := hid hW4
      have HE : Hid (setT H T (fi : Int) (kj : Int) o nm v = hitT (putT T (fi : Int) (kj : Int) uu)) := hid (by rw [HE0.out, hf])
      have hh := HGH.out qi _ hf hup
      have HR1 : Hid ((if to = 0 then (0 : Int) else growE H o to) = u) := hid (by
        rw [← HZ.out]
        by_cases h0 : to = 0
        · rw [if_pos h0]; exact (hh.1 h0).1.symm
        · rw [if_neg h0]; exact (hh.2 h0).1.symm)
      have HR2 : Hid ((if to = 0 then putH H o sl v else growH H o to v) = setH H o nm v) := hid (by
        by_cases h0 : to = 0
        · rw [if_pos h0]; exact (hh.1 h0).2.1.symm
        · rw [if_neg h0]; exact (hh.2 h0).2.symm)
      have HNo := hid (snote_calls W4 HQA.out (by omega) true)
      clear b3 b3' b4 HG2 HB2 HQ2 D HKn hW4 hb4 HE0 hf hup hp hh HGH HQA
      go_wp2_with fail
      rw [← HW4.out]
      refine HNo.out.mono ?_
      rintro e4 w4 ⟨rfl, q4, G4⟩
      have HG4 := hid (HGA.out.step G4 (fun u h => by omega))
      have HB4 := hid (blk_keep HBA.out G4.keep (fun e => by have e' : col2 w.heap.size = 1 := e; omega))
      have HQ4 := hid q4
      have HV := hid (sset_of w4 (s := s) (p := (⟨sh, ho, sl, to, ds⟩, .slice ao ds.length dcap)) HG4.out.hp (by omega) o v ⟨_, _, _, rfl⟩)
      have hbk : Blk w3.heap.size 141 #[.int .i64 (sh : Int), .int .i64 ho, .int .i64 sl, .int .i64 (to : Int), .slice ao ds.length dcap, .pointer (some ⟨s, 0, none⟩)] w4 := blk_keep HBk.out G4.keep (fun e => by
        have e' : col2 w3.heap.size = 1 := e
        rw [H30.out] at e'
        omega)
      dsimp only at HV
      rw [HR1.out, HR2.out] at HV
      unfold keV vlV at HV
      dsimp only at HV
      obtain ⟨f0, c0, l0⟩ := blk_own hbk
      obtain ⟨f1, c1, l1⟩ := blk_own HB4.out
      clear q4 G4 HNo HGA HBA hbk
      go_wp2_with fail
      refine HV.out.mono ?_
      rintro e6 w6 ⟨rfl, p6, k6⟩
      obtain ⟨g6, G6⟩ := HG4.out.heap p6 k6
      have HG6 := hid g6
      have HQ6 := hid (HQ4.out.same (Nat.le_refl _) G6 (fun _ h => h))
      clear p6 k6 g6 G6 HV HG4 HB4 HQ4 f0 c0 l0 f1 c1 l1
      go_wp2_with fail
      go_ret
      refine ⟨rfl, ?_⟩
      rw [HE.out]
      have q8 := HQ6.out
      rw [if_pos (by trivial)] at q8
      exact HG6.out.fin q8
end Go.Proofs.YtimhgbcanmgajaaGreat
