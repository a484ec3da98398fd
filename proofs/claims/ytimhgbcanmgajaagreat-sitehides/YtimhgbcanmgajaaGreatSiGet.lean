/- Get at a site. -/
import Derived.Test.YtimhgbcanmgajaaGreatSiNote
namespace Go.Proofs.YtimhgbcanmgajaaGreat
set_option linter.unusedSimpArgs false
set_option linter.unusedVariables false
set_option maxRecDepth 100000
open Go.RowKit

theorem lookF_shape {H : He} {s : ByteArray} {sh : Nat} : ∀ (n : Nat) {p : Int} {ds : List Dp} {e : En}, 0 ≤ p → lookF H s sh n p ds = some e → (e.holder = -1 ∨ 0 < e.holder) ∧ e.deps.length ≤ ds.length + n
  | 0, p, ds, e, _, h => by
    injection h with h
    subst h
    exact ⟨.inl rfl, Nat.le_refl _⟩
  | n + 1, p, ds, e, hp, h => by
    rw [lookF] at h
    split at h
    · injection h with h
      subst h
      exact ⟨.inl rfl, Nat.le_add_right _ _⟩
    · split at h
      · cases h
      · split at h
        · injection h with h
          subst h
          refine ⟨.inr (by show 0 < p; omega), ?_⟩
          show (ds ++ _).length ≤ _
          rw [List.length_append, List.length_singleton]
          omega
        · have := lookF_shape n (Int.natCast_nonneg _) h
          rw [List.length_append, List.length_singleton] at this
          exact ⟨this.1, by omega⟩
theorem lookE_shape {K : Nat} {H : He} (W : WfH K H) {o : Int} {s : ByteArray} {e : En} (h : lookE H o s = some e) : (e.holder = 0 ∨ e.holder = -1 ∨ 0 < e.holder) ∧ e.deps.length ≤ 300 := by
  unfold lookE at h
  split at h
  · injection h with h
    subst h
    exact ⟨.inl rfl, by show (0 : Nat) ≤ 300; omega⟩
  · have := lookF_shape _ (Int.natCast_nonneg _) h
    have h1 := W.len
    have h2 := W.most
    refine ⟨.inr this.1, ?_⟩
    have := this.2
    simp at this
    omega
theorem putT_putT (T : Tb) (f k : Int) (a b : St) : putT (putT T f k a) f k b = putT T f k b := by
  unfold putT
  have : (T.all.modify f.toNat (fun r => r.set k.toNat a)).modify f.toNat (fun r => r.set k.toNat b) = T.all.modify f.toNat (fun r => r.set k.toNat b) := by
    rw [List.modify_modify_eq]
    congr 1
    funext r
    exact List.set_set ..
  rw [this]
theorem getT_no {H : He} {T : Tb} {f k o : Int} {nm : ByteArray} (h : shapeH H o = 0 ∨ playsT T f k 1 nm = false) : getT H T f k o nm = missT (if shapeH H o = 0 then T else partT T f k 1 nm) := by
  unfold getT partT
  by_cases h0 : shapeH H o = 0
  · rw [if_pos h0, if_pos h0]
  · rw [if_neg h0, if_neg h0]
    have h1 : playsT T f k 1 nm = false := h.resolve_left h0
    unfold playsT at h1
    cases hs : siteT T f k with
    | none => rfl
    | some t =>
      rw [hs] at h1
      dsimp only at h1 ⊢
      cases hm : t.mega with
      | true => rw [if_pos rfl, if_pos rfl]
      | false => rw [if_neg (by decide), if_pos h1, if_neg (by decide)]
theorem getT_yes {H : He} {T : Tb} {f k o : Int} {nm : ByteArray} {t : St} (h0 : shapeH H o ≠ 0) (hs : siteT T f k = some t) (hp : playsS t 1 nm = true) :
    getT H T f k o nm = match findE (fixS t 1 nm).l (shapeH H o) with
      | some i => if ((fixS t 1 nm).l[i]?).any (holdsE H) then hitT (putT T f k (fixS t 1 nm)) else missT (putT T f k (keptS H o nm (fixS t 1 nm)))
      | none => missT (putT T f k (keptS H o nm (fixS t 1 nm))) := by
  have hm := (plays_is hp).1
  unfold getT
  rw [if_neg h0, hs]
  dsimp only
  rw [hm, if_neg (by decide), if_neg (by rw [hp]; decide)]
  unfold keptS
  cases findE (fixS t 1 nm).l (shapeH H o) with
  | none =>
    dsimp only
    cases lookE H o nm with
    | none => rfl
    | some e => dsimp only; rw [putT_putT]
  | some i =>
    dsimp only
    split
    · rfl
    · cases lookE H o nm with
      | none => rfl
      | some e => dsimp only; rw [putT_putT]
theorem keptS_as (H : He) (o : Int) (nm : ByteArray) (t : St) : (keptS H o nm t).as' = t.as' := by
  unfold keptS keepS
  split
  · split
    · rfl
    · split <;> rfl
  · rfl
theorem put_miss (T : Tb) (f k : Int) (a b : St) : putT (missT (putT T f k a)) f k b = missT (putT T f k b) := by
  have h := putT_putT T f k a b
  unfold missT
  rw [← h]
  rfl
/-- what a call holds on to: the table's blocks have colours, the heap's have none -/
structure GW (S U : Nat → Prop) (J h s : Nat) (H : He) (col col' : Nat → Nat) (w w' : World) : Prop where
  hp : HpZ U J h s H w'
  old : ∀ b, b < w.heap.size → col' b = col b
  top : ∀ b, w'.heap.size ≤ b → col' b = 0
  kp : Keep S w w'
  un : ∀ b, U b → col' b = 0 ∧ b < w'.heap.size ∧ (b < w.heap.size → S b)
  vn : ∀ b, col b ≠ 0 → S b
section
variable {S U : Nat → Prop} {J h s : Nat} {H : He} {col col1 col2 : Nat → Nat} {w a b : World}
theorem GW.step {P : Nat → Prop} (g : GW S U J h s H col col1 w a) (G : Grew P col1 col2 a b) (hP : ∀ u, P u → u ≠ 0) : GW S U J h s H col col2 w b := by
  refine ⟨g.hp.keep G.keep (fun x _ hu e => hP _ e (g.un x hu).1), fun x hx => (G.old x (Nat.lt_of_lt_of_le hx g.kp.size)).trans (g.old x hx), G.top, g.kp.trans G.keep (fun x hx e => g.vn x (by rw [← g.old x hx]; exact hP _ e)), fun x hu => ?_, g.vn⟩
  have hx := g.un x hu
  exact ⟨(G.old x hx.2.1).trans hx.1, Nat.lt_of_lt_of_le hx.2.1 G.keep.size, hx.2.2⟩
theorem GW.on (g : GW S U J h s H col col1 w a) (k : Below a.heap.size a b) : GW S U J h s H col col1 w b := g.step (P := fun _ => False) (Grew.below k g.top) (fun _ e => e.elim)
theorem GW.free (g : GW S U J h s H col col1 w a) {x : Nat} (hx : w.heap.size ≤ x) (hU : ¬ U x) (i : Nat) (v : Value) : GW S U J h s H col col1 w (a.setCell ⟨x, i, none⟩ v) := by
  have k : Keep (fun b => b = x) a (a.setCell ⟨x, i, none⟩ v) := Keep.set (S := fun b => b = x) rfl a i v
  have hz : (a.setCell ⟨x, i, none⟩ v).heap.size = a.heap.size := by simp
  exact ⟨g.hp.keep k (fun y _ hu e => by have e' : y = x := e; rw [e'] at hu; exact hU hu), g.old, fun y hy => g.top y (by rw [hz] at hy; exact hy), g.kp.trans k (fun y hy e => by have e' : y = x := e; omega), fun y hu => by rw [hz]; exact g.un y hu, g.vn⟩
/-- the heap has changed -/
theorem GW.heap {J' : Nat} {H' : He} (g : GW S U J h s H col col1 w a) (p : HpZ (Up U a) J' h s H' b) (k : Keep U a b) : GW S (fun x => Up U a x ∧ x < b.heap.size) J' h s H' col col1 w b ∧ Grew (fun u => u = 0) col1 col1 a b := by
  refine ⟨⟨p.mono (fun x hx e => ⟨e, hx⟩), g.old, fun x hx => g.top x (Nat.le_trans k.size hx), g.kp.trans k (fun x hx e => (g.un x e).2.2 hx), fun x hx => ⟨?_, hx.2, fun hl => ?_⟩, g.vn⟩, ⟨fun _ _ => rfl, fun x hx => g.top x (Nat.le_trans k.size hx), k.mono (fun x _ e => (g.un x e).1)⟩⟩
  · rcases hx.1 with h | h
    · exact (g.un x h).1
    · exact g.top x h
  · rcases hx.1 with h | h
    · exact (g.un x h).2.2 hl
    · have := g.kp.size; omega
/-- at the end -/
theorem GW.fin {K tb n g' cap : Nat} {fs : List Fm} {T : Tb} (g : GW S U J h s H col col1 w a) (q : TbAt K s T tb n g' cap fs col1 a) : Pr (fun S w => HpZ S J h s H w) (fun S w => TbZ S K tb s T w) (Up S w) a ∧ Keep S w a := by
  refine ⟨Pr.mk (fam_hp J h s H) (fam_tb K tb s T) (U := U) (V := fun b => col1 b ≠ 0) g.hp ⟨n, g', cap, fs, col1, q, fun _ h => h⟩ (fun x _ hu e => e (g.un x hu).1) (fun x _ hu => ?_) (fun x _ e => ?_), g.kp⟩
  · by_cases hl : x < w.heap.size
    · exact .inl ((g.un x hu).2.2 hl)
    · exact .inr (by omega)
  · by_cases hl : x < w.heap.size
    · exact .inl (g.vn x (by rw [← g.old x hl]; exact e))
    · exact .inr (by omega)
/-- at the beginning -/
theorem GW.start {V : Nat → Prop} {K tb n g' cap : Nat} {fs : List Fm} {T : Tb} (ha : HpZ U J h s H w) (q : TbAt K s T tb n g' cap fs col w) (hs : ∀ b, col b ≠ 0 → V b) (d : ∀ b, U b → ¬ V b) (i : ∀ b, U b ∨ V b → S b ∧ b < w.heap.size) : GW S U J h s H col col w w :=
  ⟨ha, fun _ _ => rfl, q.top, Keep.refl _ _, fun b hb => ⟨Classical.byContradiction fun e => d b hb (hs b e), (i b (.inl hb)).2, fun _ => (i b (.inl hb)).1⟩, fun b hb => (i b (.inr (hs b hb))).1⟩
end
set_option maxHeartbeats 4000000 in
theorem sget_calls {S : Nat → Prop} {K J h s tb : Nat} {H : He} {T : Tb} (w : World) (p : Pr (fun S w => HpZ S J h s H w) (fun S w => TbZ S K tb s T w) S w) (ok : TbOk H T) (hK : K ≤ 800000) (hJ : J ≤ 900000) (f k o : Int) (nm : ByteArray) (hn : nm.size ≤ 1000000) :
    Calls Tryz.prog 19 #[.pointer (some ⟨tb, 0, none⟩), .pointer (some ⟨h, 0, none⟩), .int .i64 f, .int .i64 k, .int .i64 o, .string nm] w fun e w' => e = .returned (vlV (gotH H o nm)) ∧
      Pr (fun S w => HpZ S J h s H w) (fun S w => TbZ S (K + 2) tb s (getT H T f k o nm) w) (Up S w) w' ∧ Keep S w w' := by
  obtain ⟨U, V, ha, ⟨n, g, cap, fs, col, q, hs⟩, d, i⟩ := p
  have g0 : GW S U J h s H col col w w := GW.start ha q hs d i
  have hS : ¬ U w.heap.size := fun e => by have := (i _ (.inl e)).2; omega
  have W := hid ha.s.wf
  have A := (Below.refl w.heap.size w).alloc (Nat.le_refl _) (Obj.cells #[.int .i64 0, .int .i64 0, .string ⟨#[]⟩] 37)
  have hq := blk_new w 37 #[.int .i64 0, .int .i64 0, .string ⟨#[]⟩]
  have HP := hid (stpart_calls _ (q.on A) (ha.on A).s ok (by omega) f k o (a := 1) (.inl rfl) nm)
  rw [show decide ((1 : Int) = 2) = false from rfl] at HP
  have HG1 := hid (g0.on A)
  have HB1 := hid hq
  have HS := hid hS
  have hc0 : col w.heap.size = 0 := q.top _ (Nat.le_refl _)
  clear ha q d i hs g0 A hq hS
  generalize hW : w.alloc (Obj.cells #[.int .i64 0, .int .i64 0, .string ⟨#[]⟩] 37) = w1 at *
  generalize hz : gotH H o nm = u
  have HZ := hid hz
  clear hz
  unfold vlV
  go_enter Tryz.func19, Tryz.ntmps19
  go_wp2_with fail
  refine HP.out.mono ?_
  rintro e1 w2 ⟨fs2, col2, q2, G2, ⟨hno, rfl⟩ | ⟨hsh, hpl, fi, kj, x, F2, rfl, rfl, hF2, hg2, hx2, rfl⟩⟩
  · have HG2 := hid (HG1.out.step G2 (fun u h => h.1))
    have hlw : w.heap.size < w1.heap.size := blk_lt HB1.out
    have HB2 := hid (blk_keep HB1.out G2.keep (fun e => e.1 hc0))
    have HN := hid (sknown_nil w2 (.pointer (some ⟨h, 0, none⟩)) o)
    have HQ2 := hid q2
    have HE : Hid (getT H T f k o nm = missT (if shapeH H o = 0 then T else partT T f k 1 nm)) := hid (getT_no hno)
    have c2 : col2 w.heap.size = 0 := by rw [G2.old _ hlw]; exact hc0
    clear G2 q2 hno HP HB1 HG1 hW
    go_wp2_with fail
    refine HN.out.mono ?_
    rintro e3 w3 ⟨rfl, b3⟩
    have b3' := below_on b3 ((Below.refl w3.heap.size w3).alloc (Nat.le_refl _) (Obj.cells #[.int .i64 0, .int .i64 0, .int .i64 0, .int .i64 0, .slice none 0 0, .pointer none] 141))
    have HG3 := hid (HG2.out.on b3')
    have HB3 := hid (blk_on HB2.out b3')
    have HNo := hid (snote_calls _ (HQ2.out.on b3') (by omega) false)
    have lB := blk_lt HB3.out
    clear b3 b3' HN HG2 HB2 HQ2
    go_wp2_with fail
    refine HNo.out.mono ?_
    rintro e4 w4 ⟨rfl, q4, G4⟩
    have HG4 := hid (HG3.out.step G4 (fun u h => by omega))
    have HB4 := hid (blk_keep HB3.out G4.keep (fun e => by have e' : col2 w.heap.size = 1 := e; omega))
    have HGt := hid (hget_calls w4 HG4.out.hp.s hJ o nm hn)
    have HQ4 := hid q4
    clear q4 G4 HNo HG3 HB3
    rw [HZ.out] at HGt
    unfold vlV at HGt
    go_wp2_with fail
    refine HGt.out.mono ?_
    rintro e5 w5 ⟨rfl, b5⟩
    have HG5 := hid (HG4.out.on b5)
    have HB5 := hid (blk_on HB4.out b5)
    have HQ5 := hid (HQ4.out.on b5)
    clear b5 HGt HG4 HB4 HQ4
    obtain ⟨f1, c1, l1⟩ := blk_own HB5.out
    go_wp2_with fail
    refine bodyPost_ret (ret_v (g := w.heap.size) rfl rfl ⟨by simp [go_sem, c1], by simp [go_sem, c1], by simp [go_sem, c1]⟩) rfl ⟨rfl, ?_⟩
    rw [HE.out]
    have k5 : Keep (fun b => col2 b = 0) w5 (((w5.setCell ⟨w.heap.size, 0, none⟩ (.int .i64 u.1)).setCell ⟨w.heap.size, 1, none⟩ (.int .i64 u.2.1)).setCell ⟨w.heap.size, 2, none⟩ (.string u.2.2)) := keep_set (keep_set (Keep.set (S := fun b => col2 b = 0) c2 w5 0 (.int .i64 u.1)) c2 1 (.int .i64 u.2.1)) c2 2 (.string u.2.2)
    have q6 := HQ5.out.same (P := fun u => u = 0) (Nat.le_refl _) ⟨fun _ _ => rfl, fun y hy => HG5.out.top y (Nat.le_trans k5.size hy), k5⟩ (fun _ h => h)
    exact (((HG5.out.free (Nat.le_refl _) HS.out 0 (.int .i64 u.1)).free (Nat.le_refl _) HS.out 1 (.int .i64 u.2.1)).free (Nat.le_refl _) HS.out 2 (.string u.2.2)).fin q6
  · obtain ⟨t, hst, hpt⟩ : ∃ t, siteT T (fi : Int) (kj : Int) = some t ∧ playsS t 1 nm = true := by
      unfold playsT at hpl
      cases hst : siteT T (fi : Int) (kj : Int) with
      | none => rw [hst] at hpl; cases hpl
      | some t => rw [hst] at hpl; exact ⟨t, rfl, hpl⟩
    obtain ⟨i', j', r, hi', hj', hR, hT⟩ := siteT_some hst
    obtain rfl : fi = i' := by omega
    obtain rfl : kj = j' := by omega
    obtain ⟨pm, pa, pn⟩ := plays_is hpt
    have hok := ok r (List.mem_of_getElem? hR) t (List.mem_of_getElem? hT)
    have hokU := fixS_ok hok (a := 1) (.inl rfl) nm
    have hpT : (if shapeH H o = 0 then T else partT T (fi : Int) (kj : Int) 1 nm) = putT T (fi : Int) (kj : Int) (fixS t 1 nm) := by
      rw [if_neg hsh]
      unfold partT
      rw [hst]
      dsimp only
      rw [if_neg (by rw [pm]; decide)]
    rw [hpT] at q2
    have hkj : kj < r.length := lt_of_get hT
    have hil : fi < T.all.length := lt_of_get hR
    have HE0 := hid (getT_yes hsh hst hpt)
    have HGH : Hid (∀ (i : Nat) (e : En), findE (fixS t 1 nm).l (shapeH H o) = some i → (fixS t 1 nm).l[i]? = some e → holdsE H e = true → gotH H o nm = saysE H o e) := hid (fun i e h1 h2 h3 => get_hit W.out ok hst hpt h1 h2 h3)
    have HMade : Hid (∀ e ∈ (fixS t 1 nm).l, (e.holder = 0 ∨ e.holder = -1 ∨ 0 < e.holder) ∧ e.deps.length ≤ 300) := hid (fun e he => by
      obtain ⟨K0, H0, o0, W0, _, _, hl⟩ := hokU.gets pa e he
      exact lookE_shape W0 hl)
    have hAll : Hid ((putT T (fi : Int) (kj : Int) (fixS t 1 nm)).all[fi]? = some (r.set kj (fixS t 1 nm))) := hid (by rw [putT_at hR]; exact List.getElem?_set_self hil)
    have hmu : Hid ((fixS t 1 nm).mega = false) := hid ((fix_mega t 1 nm).trans pm)
    have fewu : Hid ((fixS t 1 nm).l.length ≤ 4) := hid hokU.few
    have hua : Hid ((fixS t 1 nm).as' = 1) := hid pa
    clear hokU hok pm pa pn hpt hst hpl hpT hT
    have HG2 := hid (HG1.out.step G2 (fun u h => h.1))
    have hlw : w.heap.size < w1.heap.size := blk_lt HB1.out
    have HB2 := hid (blk_keep HB1.out G2.keep (fun e => e.1 hc0))
    have c2 : col2 w.heap.size = 0 := by rw [G2.old _ hlw]; exact hc0
    generalize fixS t 1 nm = uu at *
    obtain ⟨⟨v, l, C, cx, cv, cd⟩, _⟩ := q2.cell hF2 hg2 hx2 (r := r.set kj uu) (t := uu) hAll.out (List.getElem?_set_self hkj)
    have HKn := hid (sknown_calls w2 C fewu.out HG2.out.hp o)
    have HC := hid C
    have HQ2 := hid q2
    clear G2 q2 HP HB1 HG1 hW C cx cv cd
    go_wp2_with fail
    refine HKn.out.mono ?_
    rintro e3 w3 ⟨b3, ⟨hf, rfl⟩ | ⟨qi, p, hf, hp, hup, rfl⟩⟩
    · have b3' := below_on b3 ((Below.refl w3.heap.size w3).alloc (Nat.le_refl _) (Obj.cells #[.int .i64 0, .int .i64 0, .int .i64 0, .int .i64 0, .slice none 0 0, .pointer none] 141))
      have HGA := hid (HG2.out.on b3')
      have HBA := hid (blk_on HB2.out b3')
      have HQA := hid (HQ2.out.on b3')
      have lB := blk_lt HBA.out
      have HE : Hid (getT H T (fi : Int) (kj : Int) o nm = missT (putT T (fi : Int) (kj : Int) (keptS H o nm uu))) := hid (by rw [HE0.out, hf])
      clear b3 b3' HG2 HB2 HQ2 HE0 hf HKn
      have HNo := hid (snote_calls _ HQA.out (by omega) false)
      clear HQA
      go_wp2_with fail
      refine HNo.out.mono ?_
      rintro e4 w4 ⟨rfl, q4, G4⟩
      have HG4 := hid (HGA.out.step G4 (fun u h => by omega))
      have HB4 := hid (blk_keep HBA.out G4.keep (fun e => by have e' : col2 w.heap.size = 1 := e; omega))
      have C4 := (q4.cell hF2 hg2 hx2 (r := r.set kj uu) (t := uu) hAll.out (List.getElem?_set_self hkj)).1
      have HKf := hid (skeepf_calls w4 HG4.out.top C4 hmu.out fewu.out HG4.out.hp hJ o nm hn)
      have HQ4 := hid q4
      have lB4 := blk_lt HB4.out
      clear q4 G4 HNo HGA HBA C4
      go_wp2_with fail
      refine HKf.out.mono ?_
      rintro e5 w5 ⟨rfl, col5, G5, C5⟩
      have HG5 := hid (HG4.out.step G5 (fun u h => by rw [h]; unfold cS; omega))
      have HB5 := hid (blk_keep HB4.out G5.keep (fun e => by have e' : col2 w.heap.size = cS fi kj := e; unfold cS at e'; omega))
      have HQ5 := hid (HQ4.out.site hF2 (r := r.set kj uu) hAll.out (by rw [List.length_set]; exact hkj) hg2 hx2 G5 (fun u h => h) C5 (.inl (by rw [keptS_as, hua.out]; decide)))
      have c5 : col5 w.heap.size = 0 := by rw [G5.old _ lB4]; exact c2
      have HGt := hid (hget_calls w5 HG5.out.hp.s hJ o nm hn)
      clear G5 C5 HKf HG4 HB4 HQ4
      rw [HZ.out] at HGt
      unfold vlV at HGt
      go_wp2_with fail
      refine HGt.out.mono ?_
      rintro e6 w6 ⟨rfl, b6⟩
      have HG6 := hid (HG5.out.on b6)
      have HB6 := hid (blk_on HB5.out b6)
      have HQ6 := hid (HQ5.out.on b6)
      clear b6 HGt HG5 HB5 HQ5
      obtain ⟨f1, c1, l1⟩ := blk_own HB6.out
      go_wp2_with fail
      refine bodyPost_ret (ret_v (g := w.heap.size) rfl rfl ⟨by simp [go_sem, c1], by simp [go_sem, c1], by simp [go_sem, c1]⟩) rfl ⟨rfl, ?_⟩
      rw [HE.out]
      have k5 : Keep (fun b => col5 b = 0) w6 (((w6.setCell ⟨w.heap.size, 0, none⟩ (.int .i64 u.1)).setCell ⟨w.heap.size, 1, none⟩ (.int .i64 u.2.1)).setCell ⟨w.heap.size, 2, none⟩ (.string u.2.2)) := keep_set (keep_set (Keep.set (S := fun b => col5 b = 0) c5 w6 0 (.int .i64 u.1)) c5 1 (.int .i64 u.2.1)) c5 2 (.string u.2.2)
      have q6 := HQ6.out.same (P := fun u => u = 0) (Nat.le_refl _) ⟨fun _ _ => rfl, fun y hy => HG6.out.top y (Nat.le_trans k5.size hy), k5⟩ (fun _ h => h)
      rw [if_neg (by decide), put_miss] at q6
      exact (((HG6.out.free (Nat.le_refl _) HS.out 0 (.int .i64 u.1)).free (Nat.le_refl _) HS.out 1 (.int .i64 u.2.1)).free (Nat.le_refl _) HS.out 2 (.string u.2.2)).fin q6
    · obtain ⟨⟨sh, ho, sl, to, ds⟩, dv⟩ := p
      have D := HC.out.dps _ (List.mem_of_getElem? hp)
      obtain ⟨ao, dcap, hdv⟩ := D.shape
      dsimp only at hdv
      subst hdv
      obtain ⟨W4, hW4⟩ : ∃ W4, W4 = w3.alloc (Obj.cells #[.int .i64 (sh : Int), .int .i64 ho, .int .i64 sl, .int .i64 (to : Int), .slice ao ds.length dcap, .pointer (some ⟨s, 0, none⟩)] 141) := ⟨_, rfl⟩
      have b4 : Below w3.heap.size w3 W4 := by rw [hW4]; exact (Below.refl _ _).alloc (Nat.le_refl _) _
      have b3' := below_on b3 b4
      have H30 := hid (HG2.out.top w3.heap.size b3.size)
      have hmade := HMade.out _ (List.mem_of_getElem? hup)
      have HH := hid (sholds_calls W4 (s := s) (p := (⟨sh, ho, sl, to, ds⟩, .slice ao ds.length dcap)) (D.on b3') (by have := hmade.2; show ds.length ≤ 1000000; have h' : ds.length ≤ 300 := this; omega) (HG2.out.on b3').hp.s)
      unfold keV at HH
      dsimp only at HH
      have HGA0 := hid (HG2.out.on b3')
      have HBA0 := hid (blk_on HB2.out b3')
      have HQA0 := hid (HQ2.out.on b3')
      have hb4 : Blk w3.heap.size 141 #[.int .i64 (sh : Int), .int .i64 ho, .int .i64 sl, .int .i64 (to : Int), .slice ao ds.length dcap, .pointer (some ⟨s, 0, none⟩)] W4 := by rw [hW4]; exact blk_new _ _ _
      have HB4' := hid hb4
      have HW4 := hid hW4
      have HHo := hid hmade.1
      clear b3 b3' b4 HG2 HB2 HQ2 D hmade HKn hW4 hb4
      go_wp2_with fail
      rw [← HW4.out]
      refine HH.out.mono ?_
      rintro e7 w7 ⟨rfl, b7⟩
      have HGA := hid (HGA0.out.on b7)
      have HBA := hid (blk_on HBA0.out b7)
      have HQA := hid (HQA0.out.on b7)
      have HBk := hid (blk_on HB4'.out b7)
      clear b7 HH HGA0 HBA0 HQA0 HB4'
      cases hh : holdsE H ⟨sh, ho, sl, to, ds⟩ with
      | false =>
        have HE : Hid (getT H T (fi : Int) (kj : Int) o nm = missT (putT T (fi : Int) (kj : Int) (keptS H o nm uu))) := hid (by
          rw [HE0.out, hf]
          dsimp only
          rw [hup]
          simp only [Option.any_some, hh]
          rfl)
        clear HE0 hf hh HBk
        have HNo := hid (snote_calls w7 HQA.out (by omega) false)
        clear HQA
        go_wp2_with fail
        refine HNo.out.mono ?_
        rintro e4 w4 ⟨rfl, q4, G4⟩
        have HG4 := hid (HGA.out.step G4 (fun u h => by omega))
        have HB4 := hid (blk_keep HBA.out G4.keep (fun e => by have e' : col2 w.heap.size = 1 := e; omega))
        have C4 := (q4.cell hF2 hg2 hx2 (r := r.set kj uu) (t := uu) hAll.out (List.getElem?_set_self hkj)).1
        have HKf := hid (skeepf_calls w4 HG4.out.top C4 hmu.out fewu.out HG4.out.hp hJ o nm hn)
        have HQ4 := hid q4
        have lB4 := blk_lt HB4.out
        clear q4 G4 HNo HGA HBA C4
        go_wp2_with fail
        refine HKf.out.mono ?_
        rintro e5 w5 ⟨rfl, col5, G5, C5⟩
        have HG5 := hid (HG4.out.step G5 (fun u h => by rw [h]; unfold cS; omega))
        have HB5 := hid (blk_keep HB4.out G5.keep (fun e => by have e' : col2 w.heap.size = cS fi kj := e; unfold cS at e'; omega))
        have HQ5 := hid (HQ4.out.site hF2 (r := r.set kj uu) hAll.out (by rw [List.length_set]; exact hkj) hg2 hx2 G5 (fun u h => h) C5 (.inl (by rw [keptS_as, hua.out]; decide)))
        have c5 : col5 w.heap.size = 0 := by rw [G5.old _ lB4]; exact c2
        have HGt := hid (hget_calls w5 HG5.out.hp.s hJ o nm hn)
        clear G5 C5 HKf HG4 HB4 HQ4
        rw [HZ.out] at HGt
        unfold vlV at HGt
        go_wp2_with fail
        refine HGt.out.mono ?_
        rintro e6 w6 ⟨rfl, b6⟩
        have HG6 := hid (HG5.out.on b6)
        have HB6 := hid (blk_on HB5.out b6)
        have HQ6 := hid (HQ5.out.on b6)
        clear b6 HGt HG5 HB5 HQ5
        obtain ⟨f1, c1, l1⟩ := blk_own HB6.out
        go_wp2_with fail
        refine bodyPost_ret (ret_v (g := w.heap.size) rfl rfl ⟨by simp [go_sem, c1], by simp [go_sem, c1], by simp [go_sem, c1]⟩) rfl ⟨rfl, ?_⟩
        rw [HE.out]
        have k5 : Keep (fun b => col5 b = 0) w6 (((w6.setCell ⟨w.heap.size, 0, none⟩ (.int .i64 u.1)).setCell ⟨w.heap.size, 1, none⟩ (.int .i64 u.2.1)).setCell ⟨w.heap.size, 2, none⟩ (.string u.2.2)) := keep_set (keep_set (Keep.set (S := fun b => col5 b = 0) c5 w6 0 (.int .i64 u.1)) c5 1 (.int .i64 u.2.1)) c5 2 (.string u.2.2)
        have q6 := HQ6.out.same (P := fun u => u = 0) (Nat.le_refl _) ⟨fun _ _ => rfl, fun y hy => HG6.out.top y (Nat.le_trans k5.size hy), k5⟩ (fun _ h => h)
        rw [if_neg (by decide), put_miss] at q6
        exact (((HG6.out.free (Nat.le_refl _) HS.out 0 (.int .i64 u.1)).free (Nat.le_refl _) HS.out 1 (.int .i64 u.2.1)).free (Nat.le_refl _) HS.out 2 (.string u.2.2)).fin q6
      | true =>
        have HE : Hid (getT H T (fi : Int) (kj : Int) o nm = hitT (putT T (fi : Int) (kj : Int) uu)) := hid (by
          rw [HE0.out, hf]
          dsimp only
          rw [hup]
          simp only [Option.any_some, hh]
          rfl)
        have HU : Hid (saysE H o ⟨sh, ho, sl, to, ds⟩ = u) := hid ((HGH.out qi _ hf hup hh).symm.trans HZ.out)
        clear HE0 hf hh
        have HNo := hid (snote_calls w7 HQA.out (by omega) true)
        clear HQA
        go_wp2_with fail
        refine HNo.out.mono ?_
        rintro e4 w4 ⟨rfl, q4, G4⟩
        have HG4 := hid (HGA.out.step G4 (fun u h => by omega))
        have HB4 := hid (blk_keep HBA.out G4.keep (fun e => by have e' : col2 w.heap.size = 1 := e; omega))
        have HQ4 := hid q4
        have HV := hid (svalue_of w4 (s := s) (p := (⟨sh, ho, sl, to, ds⟩, .slice ao ds.length dcap)) HG4.out.hp.s o HHo.out ⟨_, _, _, rfl⟩)
        have hbk : Blk w3.heap.size 141 #[.int .i64 (sh : Int), .int .i64 ho, .int .i64 sl, .int .i64 (to : Int), .slice ao ds.length dcap, .pointer (some ⟨s, 0, none⟩)] w4 := blk_keep HBk.out G4.keep (fun e => by
          have e' : col2 w3.heap.size = 1 := e
          rw [H30.out] at e'
          omega)
        rw [HU.out] at HV
        unfold keV vlV at HV
        dsimp only at HV
        obtain ⟨f0, c0, l0⟩ := blk_own hbk
        clear q4 G4 HNo HGA HBA hbk
        go_wp2_with fail
        refine HV.out.mono ?_
        rintro e6 w6 ⟨rfl, b6⟩
        have HG6 := hid (HG4.out.on b6)
        have HB6 := hid (blk_on HB4.out b6)
        have HQ6 := hid (HQ4.out.on b6)
        clear b6 HV HG4 HB4 HQ4 f0 c0 l0
        obtain ⟨f1, c1, l1⟩ := blk_own HB6.out
        go_wp2_with fail
        refine bodyPost_ret (ret_v (g := w.heap.size) rfl rfl ⟨by simp [go_sem, c1], by simp [go_sem, c1], by simp [go_sem, c1]⟩) rfl ⟨rfl, ?_⟩
        rw [HE.out]
        have k5 : Keep (fun b => col2 b = 0) w6 (((w6.setCell ⟨w.heap.size, 0, none⟩ (.int .i64 u.1)).setCell ⟨w.heap.size, 1, none⟩ (.int .i64 u.2.1)).setCell ⟨w.heap.size, 2, none⟩ (.string u.2.2)) := keep_set (keep_set (Keep.set (S := fun b => col2 b = 0) c2 w6 0 (.int .i64 u.1)) c2 1 (.int .i64 u.2.1)) c2 2 (.string u.2.2)
        have q6 := HQ6.out.same (P := fun u => u = 0) (Nat.le_refl _) ⟨fun _ _ => rfl, fun y hy => HG6.out.top y (Nat.le_trans k5.size hy), k5⟩ (fun _ h => h)
        rw [if_pos (by trivial)] at q6
        exact (((HG6.out.free (Nat.le_refl _) HS.out 0 (.int .i64 u.1)).free (Nat.le_refl _) HS.out 1 (.int .i64 u.2.1)).free (Nat.le_refl _) HS.out 2 (.string u.2.2)).fin q6
end Go.Proofs.YtimhgbcanmgajaaGreat
