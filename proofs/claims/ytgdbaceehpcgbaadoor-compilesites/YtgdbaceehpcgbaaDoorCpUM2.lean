/- What the program makes of a unit: the call. -/
import Derived.Test.YtgdbaceehpcgbaaDoorCpUM
namespace Go.Proofs.YtgdbaceehpcgbaaDoor
set_option linter.unusedSimpArgs false
open Go.RowKit

theorem ret_prog {fn : Func} {t t2 : Tmp} (h : fn.results = #[.cell t 30, .tmp t2]) {tmps : Array Value} {g : Nat} {w : World} {v0 v1 v2 x : Value} (ht : tmps.getD t undef = .pointer (some ⟨g, 0, none⟩)) (ht2 : tmps.getD t2 undef = x) (hb : Blk g 30 #[v0, v1, v2] w) :
    (results fn tmps).run Tryd.prog w = .ok (.tuple #[.agg #[v0, v1, v2], x]) w := by
  rw [Array.getD_eq_getD_getElem?] at ht ht2
  have c0 := blk_cell hb 0
  have c1 := blk_cell hb 1
  have c2 := blk_cell hb 2
  simp at c0 c1 c2
  simp [results, h, ht, ht2, go_sem, asAddr, c0, c1, c2]
/-- what a call of Unit comes to -/
def UnitOut (G : Int) (fs : List Fq) (e : Ending) (w' : World) : Prop := match unitC G fs with
  | .bad x => e = .returned (.tuple #[.agg #[.int .i64 0, .slice none 0 0, .slice none 0 0], .int .i64 x])
  | .ok cs L => ∃ pv cv, e = .returned (.tuple #[.agg #[.int .i64 G, pv, cv], .int .i64 0]) ∧ PgIn w'.heap.size w' ⟨G, L, cs⟩ pv cv
theorem blk_3 {g : Nat} {T : TypeId} {a b c x y z : Value} {w : World} (h : Blk g T #[a, b, c] w) : Blk g T #[x, y, z] (((w.setCell ⟨g, 0, none⟩ x).setCell ⟨g, 1, none⟩ y).setCell ⟨g, 2, none⟩ z) ∧ Keep (fun b => b = g) w (((w.setCell ⟨g, 0, none⟩ x).setCell ⟨g, 1, none⟩ y).setCell ⟨g, 2, none⟩ z) := by
  refine ⟨?_, ((Keep.set (S := fun b => b = g) rfl w 0 x).trans (Keep.set (S := fun b => b = g) rfl _ 1 y) (fun _ _ q => q)).trans (Keep.set (S := fun b => b = g) rfl _ 2 z) (fun _ _ q => q)⟩
  have := blk_set (blk_set (blk_set h 0 x) 1 y) 2 z
  simpa using this
theorem cntU_le (fs : List Fq) (j : Nat) : cntU (fs.take j) ≤ cntU fs := by
  have : cntU (fs.take j ++ fs.drop j) = cntU (fs.take j) + cntU (fs.drop j) := by unfold cntU; rw [List.map_append, List.sum_append]
  rw [List.take_append_drop] at this
  omega
theorem built_ins : ∀ {fs : List (Int × Int × List Nd)} {L : List ByteArray} {cs : List Cd} {M : List ByteArray}, BuiltC fs L cs M → ∀ c ∈ cs, c.ins.length ≤ 4000
  | [], L, [], M, _ => fun c hc => by cases hc
  | f :: r, L, c :: cs, M, h => by
    obtain ⟨rfl, h1, _, h3⟩ := h
    intro c hc
    rcases List.mem_cons.1 hc with rfl | hc
    · exact h1
    · exact built_ins h3 c hc
  | [], _, _ :: _, _, h => h.elim
  | _ :: _, _, [], _, h => h.elim
theorem three_new (w : World) (G : Int) :
    let W := ((w.alloc (.cells #[.int .i64 G, .slice none 0 0, .slice none 0 0] 30)).alloc (.map #[] 0)).alloc (.cells #[.map (some (w.heap.size + 1)), .slice none 0 0] 59)
    PlS (fun b => w.heap.size + 1 ≤ b) (w.heap.size + 1 + 1) [] W ∧ Blk w.heap.size 30 #[.int .i64 G, .slice none 0 0, .slice none 0 0] W ∧ Below w.heap.size w W := by
  intro W
  have b1 := (Below.refl w.heap.size w).alloc (Nat.le_refl _) (.cells #[.int .i64 G, .slice none 0 0, .slice none 0 0] 30)
  have b2 := b1.alloc (by simp) (.map #[] 0)
  have b3 := b2.alloc (by simp; omega) (.cells #[.map (some (w.heap.size + 1)), .slice none 0 0] 59)
  have h1 := blk_new w 30 #[.int .i64 G, .slice none 0 0, .slice none 0 0]
  have h3 := blk_new ((w.alloc (.cells #[.int .i64 G, .slice none 0 0, .slice none 0 0] 30)).alloc (.map #[] 0)) 59 #[.map (some (w.heap.size + 1)), .slice none 0 0]
  have h2 := mapN_new (w.alloc (.cells #[.int .i64 G, .slice none 0 0, .slice none 0 0] 30))
  simp only [World.size_alloc] at h2 h3
  refine ⟨⟨w.heap.size + 1, .slice none 0 0, ⟨h3, ⟨rfl, .inl ⟨rfl, rfl⟩⟩, ?_⟩, ?_⟩, blk_on (blk_on h1 ((Below.refl _ _).alloc (Nat.le_refl _) _)) ((Below.refl _ _).alloc (Nat.le_refl _) _), b3⟩
  · exact mapN_ext (mapN_keep h2 (((Below.refl _ _).alloc (Nat.le_refl _) _).block _ (by simp))) numC_nil
  · rintro b (rfl | rfl | h)
    · omega
    · omega
    · simp [Value.ownBlock] at h
set_option maxHeartbeats 6400000 in
set_option maxRecDepth 100000 in
theorem unit_calls (G : Int) (fs : List Fq) (B : Nat) (w : World) (fv : Value) (hO : Hid (Ok B w)) (hF : Hid (FnsIn B w fv fs)) (hU : Hid (FewU fs)) (hc : cntU fs ≤ 300) (hl : fs.length ≤ 40) :
    Calls Tryd.prog 10 #[.agg #[.int .i64 G, fv]] w fun e w' => UnitOut G fs e w' ∧ Below w.heap.size w w' := by
  obtain ⟨ao, cp, rfl⟩ := fnsIn_shape hF.out
  have hB := hO.out.1
  have A1 := (Below.refl w.heap.size w).alloc (Nat.le_refl _) (.cells #[.int .i64 G, .slice ao fs.length cp] 24)
  have A2 := A1.alloc (by simp) (.cells #[.int .i64 0, .slice none 0 0, .slice none 0 0] 30)
  have B1 := blk_on (blk_new w 24 #[.int .i64 G, .slice ao fs.length cp]) ((Below.refl _ _).alloc (Nat.le_refl _) (.cells #[.int .i64 0, .slice none 0 0, .slice none 0 0] 30))
  have B2 := blk_new (w.alloc (.cells #[.int .i64 G, .slice ao fs.length cp] 24)) 30 #[.int .i64 0, .slice none 0 0, .slice none 0 0]
  simp only [World.size_alloc] at B2
  generalize hW : (w.alloc (.cells #[.int .i64 G, .slice ao fs.length cp] 24)).alloc (.cells #[.int .i64 0, .slice none 0 0, .slice none 0 0] 30) = w0 at *
  have z0 : w0.heap.size = w.heap.size + 1 + 1 := by rw [← hW]; simp
  have p0 : w0.cell? ⟨w.heap.size, 0, none⟩ = some (.int .i64 G) := blk_cellZ B1 0 rfl
  have p1 : w0.cell? ⟨w.heap.size, 1, none⟩ = some (.slice ao fs.length cp) := blk_cellZ B1 1 rfl
  have HK := hid (check_calls8 G fs B w0 (.slice ao fs.length cp) (hid (ok_on hO.out (A2.mono hB))) (hid (fnsIn_on hF.out (A2.mono hB))) hU)
  have AB := hid A2
  have BU := hid B1
  have BR := hid B2
  have hrb : w.heap.size + 1 < w0.heap.size := by omega
  have hrn := hid (show w.heap.size ≤ w.heap.size + 1 by omega)
  have hne : w.heap.size ≠ w.heap.size + 1 := by omega
  clear A1 A2 B1 B2
  by_cases hck : checkU G fs = 0
  case neg =>
    have hUO : ∀ W, UnitOut G fs (.returned (.tuple #[.agg #[.int .i64 0, .slice none 0 0, .slice none 0 0], .int .i64 (checkU G fs)])) W := fun W => by
      unfold UnitOut unitC
      rw [if_pos hck]
    have HUO := hid hUO
    have hd : (checkU G fs != 0) = true := by simpa using hck
    generalize checkU G fs = ck at *
    clear hUO
    go_enter Tryd.func10, Tryd.ntmps10
    go_wp2_with fail
    refine HK.out.mono ?_
    rintro e w1 ⟨rfl, b1⟩
    clear hW z0
    generalize w.heap.size + 1 = rb at *
    have R1 := hid (blk_on BR.out b1)
    have BB := hid ((AB.out).trans (b1.mono AB.out.size))
    have s0 : w1.cell? ⟨rb, 0, none⟩ = some (.int .i64 0) := blk_cellZ R1.out 0 rfl
    have s1 : w1.cell? ⟨rb, 1, none⟩ = some (.slice none 0 0) := blk_cellZ R1.out 1 rfl
    have s2 : w1.cell? ⟨rb, 2, none⟩ = some (.slice none 0 0) := blk_cellZ R1.out 2 rfl
    have t0 := blk_free R1.out 0
    have t1 := blk_free R1.out 1
    have t2 := blk_free R1.out 2
    clear b1
    go_wp2_with fail
    have Q := hid (blk_3 (x := .int .i64 0) (y := .slice none 0 0) (z := .slice none 0 0) R1.out)
    refine bodyPost_ret (ret_prog rfl rfl rfl Q.out.1) rfl ?_
    exact ⟨HUO.out _, BB.out.trans (Q.out.2.below (by have := BB.out.size; omega) (fun k q => by subst q; exact hrn.out))⟩
  case pos =>
    have hd : (checkU G fs != 0) = false := by simp [hck]
    have hub : unitB G fs = true := by
      unfold checkU at hck
      split at hck
      · cases hck
      · split at hck
        · assumption
        · cases hck
    have hR := hid (fns_right (by unfold unitB at hub; rw [Bool.and_eq_true] at hub; exact hub.2) : ∀ f ∈ fs, (f.2.2.all fun x => rightD (f.2.1, G, (fs.length : Int)) x 2) = true)
    have hUO := hid (show unitC G fs = match fnsC fs [] with | .bad e => .bad e | .ok cs L => if 120 < L.length then .bad 5 else .ok cs L by unfold unitC; rw [if_neg (by simpa using hck)]; cases fnsC fs [] <;> rfl)
    have HOK := hid (fun cs L (h : unitC G fs = .ok cs L) => unit_ok h)
    clear hub
    generalize checkU G fs = ck at *
    go_enter Tryd.func10, Tryd.ntmps10
    go_wp2_with fail
    refine HK.out.mono ?_
    rintro e w1 ⟨rfl, b1⟩
    clear hW z0 HK hck
    generalize w.heap.size + 1 = rb at *
    have R1 := hid (blk_on BR.out b1)
    have U1 := hid (blk_on BU.out b1)
    have BB := hid ((AB.out).trans (b1.mono AB.out.size))
    have x0 : w1.cell? ⟨w.heap.size, 0, none⟩ = some (.int .i64 G) := blk_cellZ U1.out 0 rfl
    have x1 : w1.cell? ⟨w.heap.size, 1, none⟩ = some (.slice ao fs.length cp) := blk_cellZ U1.out 1 rfl
    have g0 : w.heap.size < w1.heap.size := blk_lt U1.out
    have g1 : rb < w1.heap.size := blk_lt R1.out
    clear b1 p0 p1
    have hmk : ∀ w, (Instr.makeMap 57 none).run Tryd.prog w = .ok (.map (some w.heap.size)) (w.alloc (.map #[] 0)) := fun w => by simp [Instr.makeMap]
    obtain ⟨hP2, hB2, A2⟩ := three_new w1 G
    have B2 := blk_on (U1.out) A2
    have x2 := blk_cellZ B2 1 rfl
    have z2 : (((w1.alloc (.cells #[.int .i64 G, .slice none 0 0, .slice none 0 0] 30)).alloc (.map #[] 0)).alloc (.cells #[.map (some (w1.heap.size + 1)), .slice none 0 0] 59)).heap.size = w1.heap.size + 1 + 1 + 1 := by simp
    generalize hW2 : ((w1.alloc (.cells #[.int .i64 G, .slice none 0 0, .slice none 0 0] 30)).alloc (.map #[] 0)).alloc (.cells #[.map (some (w1.heap.size + 1)), .slice none 0 0] 59) = w2 at *
    have HP2 := hid hP2
    have HB2 := hid hB2
    have HA2 := hid A2
    have HZ2 := hid z2
    clear hP2 hB2 A2 B2 z2
    go_wp2_with fail
    have R2 := hid (blk_on R1.out HA2.out)
    have BB2 := hid (BB.out.trans (HA2.out.mono BB.out.size))
    have hpbB : w.heap.size ≤ w1.heap.size := BB.out.size
    have hrl := hid g1
    obtain ⟨T0, hT0, HP3⟩ : ∃ T0 : Nat → Prop, Hid (∀ b, T0 b → w1.heap.size < b ∧ b < w2.heap.size) ∧ Hid (PlS T0 (w1.heap.size + 1 + 1) [] w2) :=
      ⟨fun b => w1.heap.size + 1 ≤ b ∧ b < w2.heap.size, hid fun b h => ⟨by omega, h.2⟩, hid (HP2.out.mono (fun b hb q => ⟨q, hb⟩))⟩
    have hpl : w1.heap.size + 1 + 1 ≠ w1.heap.size := by omega
    clear hW2 x0 x1 x2 g0 g1 hmk HP2 R1 U1 BB HA2
    generalize w1.heap.size + 1 + 1 = pl at *
    generalize w1.heap.size = pb at *
    clear HZ2
    obtain ⟨X, hX0⟩ : ∃ X : Nat → Prop, ∀ b, X b ↔ b = pb ∨ b = rb := ⟨fun b => b = pb ∨ b = rb, fun _ => Iff.rfl⟩
    have hX := hid hX0
    clear hX0
    go_loopw [26] (fun i wr => ∃ (j : Nat) (T : Nat → Prop) (L : List ByteArray) (xs : List (Cd × Value)) (v : Value), j ≤ fs.length ∧ i = .int .i64 j ∧ Hid (Below pb w2 wr) ∧ Hid (PlS T pl L wr) ∧ Hid (∀ b, T b → pb < b ∧ b < wr.heap.size) ∧ Hid (Blk pb 30 #[.int .i64 G, .slice none 0 0, v] wr) ∧ Hid (CdsK (fun b => T b ∨ X b) wr v xs) ∧ Hid (∀ b, v.ownBlock = some b → pb < b) ∧ Hid (L.length ≤ 2 * cntU (fs.take j)) ∧ Hid (fnsC fs [] = (fnsC (fs.drop j) L).pre (xs.map Prod.fst)) ∧ Hid (xs.length = j)) (fun i _ => fs.length - (intOf i).toNat)
    case atStart => exact ⟨0, T0, [], [], .slice none 0 0, Nat.zero_le _, rfl, hid (Below.refl _ _), HP3, hT0, HB2, hid ⟨⟨rfl, .inl ⟨rfl, rfl⟩⟩, fun b hb => (by cases hb), fun x hx => (by cases hx)⟩, hid (fun b hb => (by cases hb)), hid (by simp), hid (by rw [List.drop_zero, List.map_nil, pre_nil]), hid rfl⟩
    case round =>
      obtain ⟨j, T, L, xs, v, hj, rfl, hb, HP, hT, HB, HC, hv, hL, hE, hx⟩ := hrel
      have hWR := hid (BB2.out.trans (hb.out.mono hpbB))
      by_cases hjl : j < fs.length
      · obtain ⟨b, off, hao, hbB, kv, d0, d1, d2, hk⟩ := fnsIn_at hF.out (List.getElem?_eq_getElem hjl)
        subst hao
        have hb' := hWR.out.mono hB
        have e0 := cell_keep hb' hbB d0
        have e1 := cell_keep hb' hbB d1
        have e2 := cell_keep hb' hbB d2
        obtain ⟨ka, kc, rfl, hks⟩ := kidsIn_cases hk
        have HKd := hid (kidsIn_on hb' hk)
        have hRf := hid (hR.out fs[j] (List.getElem_mem hjl))
        have hd : fs.drop j = fs[j] :: fs.drop (j + 1) := List.drop_eq_getElem_cons hjl
        have hcf : countL fs[j].2.2 ≤ 300 := by have := cntU_take hjl; have h2 := cntU_le fs (j + 1); omega
        have hct := hid (cntU_take hjl)
        have hLl : L.length ≤ 10000 := by have := hL.out; have h2 := cntU_le fs j; omega
        have hE2 := hE.out
        rw [hd, fnsC_step] at hE2
        have HE := hid hE2
        generalize fs[j] = f at *
        obtain ⟨p, q, l⟩ := f
        dsimp only at *
        have hsz := hWR.out.size
        have hbw : b < wr.heap.size := by omega
        clear hk hks hb' d0 d1 d2 hE2 hd hE
        have AR := hid ((Below.refl wr.heap.size wr).alloc (Nat.le_refl _) (.cells #[.int .i64 p, .int .i64 q, .slice ka l.length kc] 44))
        go_wp2_with fail
        refine (function_calls (p, q, l) hRf T pl B L _ (.slice ka l.length kc) (hid (Nat.le_trans hB (Nat.le_trans hsz AR.out.size))) (hid fun b q => by have := (hT.out b q).1; omega) (hid (HP.out.on AR.out)) (hid (kidsIn_on (AR.out.mono (Nat.le_trans hB hsz)) HKd.out)) (by dsimp only; omega) hLl).mono ?_
        rintro e w4 ⟨iv, T2, rfl, hP2, hT2, hK2, hI2⟩
        have hL2 : (bodyC l L).2.1.length ≤ L.length + 2 * countL l := (kN_len l (L, 0)).2.1
        rw [show codeC (p, q, l) L = ⟨p, q, (bodyC l L).2.2, deepC (bodyC l L).1, (bodyC l L).1⟩ from rfl] at HE
        dsimp only at *
        generalize bodyC l L = bd at *
        obtain ⟨J, L2, st⟩ := bd
        dsimp only at *
        generalize deepC J = dp at *
        have hpw := blk_lt HB.out
        have W4 := hid (show Below pb wr w4 from (AR.out.mono (by omega)).trans (hK2.below (by have := AR.out.size; omega) (fun k q => by have := (hT.out k q).1; omega)))
        have hz4 := hK2.size
        have hzA := AR.out.size
        have PB4 := hid (blk_keep (blk_on HB.out AR.out) hK2 (fun q => by have := (hT.out pb q).1; omega))
        have HI4 := hid hI2
        have HC4 := hid ((HC.out.keep (T := fun b => T b ∨ X b) (Keep.of (S := fun _ => False) AR.out) (fun _ _ _ q => q) (fun _ _ q => q)).keep (T := fun b => (T2 b ∧ b < w4.heap.size) ∨ X b) hK2 (fun b _ h q => h (.inl q)) (fun b hb q => q.elim (fun q => .inl ((hT2 b q.1).resolve_right (by omega))) .inr))
        have HP4 := hid (hP2.mono (T := fun b => T2 b ∧ b < w4.heap.size) (fun b hb q => ⟨q, hb⟩))
        have hT4 := hid (show ∀ b, (T2 b ∧ b < w4.heap.size) → pb < b ∧ b < w4.heap.size from fun b q => ⟨(hT2 b q.1).elim (fun h => (hT.out b h).1) (fun h => by omega), q.2⟩)
        obtain ⟨ib, ic, ics, rfl, _, i2, _⟩ := hI2
        have hib := blk_apart i2 PB4.out (by decide)
        have RB4 := hid (show Blk rb 30 #[.int .i64 0, .slice none 0 0, .slice none 0 0] w4 from ((hb.out.trans W4.out).block rb hrl.out).trans R2.out)
        have hib2 := blk_apart i2 RB4.out (by decide)
        have HI4b := hid (show InsK (fun b => (T2 b ∧ b < w4.heap.size) ∨ X b) w4 (.slice (some ⟨ib, 0, none⟩) J.length ic) J from by
          obtain ⟨b, cap, cs, e, h0, h1, h2⟩ := HI4.out
          refine ⟨b, cap, cs, e, fun q => q.elim (fun q => h0 q.1) (fun q => ?_), h1, h2⟩
          injection e with e
          injection e with e
          injection e with e
          exact ((hX.out b).1 q).elim (fun q => hib (e.trans q)) (fun q => hib2 (e.trans q)))
        have AC := hid ((Below.refl w4.heap.size w4).alloc (Nat.le_refl _) (.cells #[.int .i64 p, .int .i64 q, .int .i64 st, .int .i64 dp, .slice (some ⟨ib, 0, none⟩) J.length ic] 41))
        have BC := hid (blk_new w4 41 #[.int .i64 p, .int .i64 q, .int .i64 st, .int .i64 dp, .slice (some ⟨ib, 0, none⟩) J.length ic])
        have hTe : ∃ T3 : Nat → Prop, T3 = fun b => T2 b ∧ b < w4.heap.size := ⟨_, rfl⟩
        obtain ⟨T3, hT3⟩ := hTe
        have hTf : (fun b => (T2 b ∧ b < w4.heap.size) ∨ X b) = fun b => T3 b ∨ X b := by rw [hT3]
        rw [hTf] at HC4 HI4b
        have hT4' := hid (show ∀ b, T3 b → pb < b ∧ b < w4.heap.size by rw [hT3]; exact hT4.out)
        have HP4' : Hid (PlS T3 pl L2 w4) := by rw [hT3]; exact HP4
        clear hTf hT3 HP4 hT4 hT2 hK2 hP2 HI4 i2 hib hib2 RB4 HC HP hT HB e0 e1 e2 HKd hRf hLl
        have hcb : w4.heap.size < (w4.alloc (.cells #[.int .i64 p, .int .i64 q, .int .i64 st, .int .i64 dp, .slice (some ⟨ib, 0, none⟩) J.length ic] 41)).heap.size := by simp
        go_wp2_with fail
        refine (room_calls _ p q st dp (some ⟨ib, 0, none⟩) J.length ic).mono ?_
        rintro e w6 ⟨rfl, b6⟩
        have D6 := hid (AC.out.trans (b6.mono AC.out.size))
        have C6 := hid (blk_on BC.out b6)
        have PB6 := hid (blk_on PB4.out D6.out)
        have W6 := hid ((hb.out.trans W4.out).trans (D6.out.mono (by omega)))
        clear b6 AC BC
        by_cases hr0 : roomC dp J.length = 0
        · have hd2 : (roomC dp J.length != 0) = false := by simp [hr0]
          have HE6 := hid (show fnsC fs [] = (fnsC (fs.drop (j + 1)) L2).pre ((xs ++ [((⟨p, q, st, dp, J⟩ : Cd), Value.slice (some ⟨ib, 0, none⟩) J.length ic)]).map Prod.fst) by
            have h := HE.out
            rw [if_neg (by simpa using hr0), pre_pre] at h
            simpa using h)
          have HC6 := hid (HC4.out.keep (T := fun b => T3 b ∨ X b) (Keep.of (S := fun _ => False) D6.out) (fun _ _ _ q => q) (fun _ _ q => q))
          have HI6 := hid (HI4b.out.keep (T := fun b => T3 b ∨ X b) (Keep.of (S := fun _ => False) D6.out) (fun _ _ _ _ q => q) (fun _ _ q => q))
          have HP6 := hid (HP4'.out.on D6.out)
          have hT6 := hid (show ∀ b, T3 b → pb < b ∧ b < w6.heap.size from fun b q => ⟨(hT4'.out b q).1, Nat.lt_of_lt_of_le (hT4'.out b q).2 D6.out.size⟩)
          have hxl : xs.length ≤ 1000000 := by have := hx.out; omega
          obtain ⟨va, vc, rfl⟩ := row_shape HC6.out.row
          have k0 : w6.cell? ⟨w4.heap.size, 0, none⟩ = some (.int .i64 p) := blk_cellZ C6.out 0 rfl
          have k1 : w6.cell? ⟨w4.heap.size, 1, none⟩ = some (.int .i64 q) := blk_cellZ C6.out 1 rfl
          have k2 : w6.cell? ⟨w4.heap.size, 2, none⟩ = some (.int .i64 st) := blk_cellZ C6.out 2 rfl
          have k3 : w6.cell? ⟨w4.heap.size, 3, none⟩ = some (.int .i64 dp) := blk_cellZ C6.out 3 rfl
          have k4 : w6.cell? ⟨w4.heap.size, 4, none⟩ = some (.slice (some ⟨ib, 0, none⟩) J.length ic) := blk_cellZ C6.out 4 rfl
          have kp : w6.cell? ⟨pb, 2, none⟩ = some (.slice va xs.length vc) := blk_cellZ PB6.out 2 rfl
          generalize roomC dp J.length = rc at *
          clear HC4 HI4b HP4' hT4' PB4 C6 hr0 HE
          go_wp2_with (first | (at_builtin; go_loud (refine row_app elCode (by decide) (by decide) rfl _ _ rfl xs.length (cdsC xs) [.int .i64 p, .int .i64 q, .int .i64 st, .int .i64 dp, .slice (some ⟨ib, 0, none⟩) J.length ic] rfl (by intro u hu; simp at hu; rcases hu with rfl | rfl | rfl | rfl | rfl <;> rfl) (.slice va xs.length vc) (by rfl) HC6.out.row w6.heap.size (by rfl) rfl hxl ?_; intro g cg w7 hown hgrow hat; have HC7 := hid (HC6.out.more (c := ⟨p, q, st, dp, J⟩) HI6.out hown hgrow hat (fun b h => h.elim (fun h => (hT6.out b h).2) (fun h => by have h1 := blk_lt PB6.out; have h2 := hrl.out; rcases (hX.out b).1 h with rfl | rfl <;> omega))); have HP7 := hid (HP6.out.keep (Keep.grown (S := fun b => (Value.slice va xs.length vc).ownBlock = some b) hgrow (fun k hk => hk)) (fun b _ h e => HC6.out.off b e (.inl h))); have PB7 := hid (blk_keep PB6.out (Keep.grown (S := fun b => (Value.slice va xs.length vc).ownBlock = some b) hgrow (fun k hk => hk)) (fun e => HC6.out.off pb e (.inr ((hX.out pb).2 (.inl rfl))))); have W7 := hid (W6.out.trans ((Keep.grown (S := fun b => (Value.slice va xs.length vc).ownBlock = some b) hgrow (fun k hk => hk)).below (Nat.le_of_lt (blk_lt PB6.out)) (fun k hk => Nat.le_of_lt (hv.out k hk)))); have hz7 := hgrow.size; have hg7 := hid (show pb < g from hat.elim (fun h => hv.out g h) (fun h => Nat.lt_of_lt_of_le (blk_lt PB6.out) h)); have r2 : w7.cell? ⟨pb, 2, none⟩ = some (.slice va xs.length vc) := blk_cellZ PB7.out 2 rfl; have r3 := blk_free PB7.out 2; clear hown hgrow hat)) | fail)
          go_roundw
          case rel =>
            have K8 := Keep.set (S := fun b => b = pb) rfl w7 2 (.slice (some ⟨g, 0, none⟩) (xs.length + 1) cg)
            refine ⟨j + 1, T3, L2, xs ++ [((⟨p, q, st, dp, J⟩ : Cd), Value.slice (some ⟨ib, 0, none⟩) J.length ic)], .slice (some ⟨g, 0, none⟩) (xs.length + 1) cg, by omega, by go_num, hid (W7.out.trans (K8.below (Nat.le_of_lt (blk_lt PB7.out)) (fun k hk => Nat.le_of_eq hk.symm))), hid (HP7.out.keep K8 (fun b _ h e => by have := (hT6.out b h).1; omega)), hid (fun b h => ⟨(hT6.out b h).1, by have := (hT6.out b h).2; have := K8.size; omega⟩), hid (by have := blk_set PB7.out 2 (.slice (some ⟨g, 0, none⟩) (xs.length + 1) cg); simpa using this), hid (HC7.out.keep K8 (fun b _ h e => h (.inr ((hX.out b).2 (.inl e)))) (fun _ _ q => q)), hid (fun b hb => by simp [Value.ownBlock] at hb; subst hb; exact hg7.out), hid (by have h1 := hct.out; have h2 := hL.out; omega), HE6, hid (by simp [hx.out])⟩
          case measure => simp [intOf]; omega
        · have HEb := hid (show fnsC fs [] = .bad (roomC dp J.length) by
            have h := HE.out
            rw [if_pos (by simpa using hr0)] at h
            exact h)
          have HUO := hid (show ∀ W, UnitOut G fs (.returned (.tuple #[.agg #[.int .i64 0, .slice none 0 0, .slice none 0 0], .int .i64 (roomC dp J.length)])) W from fun W => by
            unfold UnitOut
            rw [hUO.out, HEb.out])
          have hd2 : (roomC dp J.length != 0) = true := by simpa using hr0
          generalize roomC dp J.length = rc at *
          have R6 := hid (show Blk rb 30 #[.int .i64 0, .slice none 0 0, .slice none 0 0] w6 from (W6.out.block rb hrl.out).trans R2.out)
          have s0 : w6.cell? ⟨rb, 0, none⟩ = some (.int .i64 0) := blk_cellZ R6.out 0 rfl
          have s1 : w6.cell? ⟨rb, 1, none⟩ = some (.slice none 0 0) := blk_cellZ R6.out 1 rfl
          have s2 : w6.cell? ⟨rb, 2, none⟩ = some (.slice none 0 0) := blk_cellZ R6.out 2 rfl
          have t0 := blk_free R6.out 0
          have t1 := blk_free R6.out 1
          have t2 := blk_free R6.out 2
          have LL := hid (BB2.out.trans (W6.out.mono hpbB))
          clear HC4 HI4b HP4' hT4' PB4 C6 hr0 HE HEb PB6 D6
          go_wp2_with fail
          have Q := hid (blk_3 (x := .int .i64 0) (y := .slice none 0 0) (z := .slice none 0 0) R6.out)
          refine bodyPost_ret (ret_prog rfl rfl rfl Q.out.1) rfl ?_
          exact ⟨HUO.out _, LL.out.trans (Q.out.2.below LL.out.size (fun k q => by subst q; exact hrn.out))⟩
      · have e : fs.drop j = [] := List.drop_eq_nil_iff.2 (by omega)
        have hE2 := hE.out
        rw [e] at hE2
        have HE := hid (show fnsC fs [] = .ok (xs.map Prod.fst) L by rw [hE2]; simp [fnsC, Cz.pre])
        obtain ⟨m, tv, hA, hft⟩ := HP.out
        obtain ⟨ta, tc, rfl⟩ := row_shape hA.row
        have HA := hid hA
        have c1 : wr.cell? ⟨pl, 1, none⟩ = some (.slice ta L.length tc) := blk_cellZ hA.blk 1 rfl
        have R6 := hid (show Blk rb 30 #[.int .i64 0, .slice none 0 0, .slice none 0 0] wr from (hb.out.block rb hrl.out).trans R2.out)
        have LL := hid (BB2.out.trans (hb.out.mono hpbB))
        have s0 : wr.cell? ⟨rb, 0, none⟩ = some (.int .i64 0) := blk_cellZ R6.out 0 rfl
        have s1 : wr.cell? ⟨rb, 1, none⟩ = some (.slice none 0 0) := blk_cellZ R6.out 1 rfl
        have s2 : wr.cell? ⟨rb, 2, none⟩ = some (.slice none 0 0) := blk_cellZ R6.out 2 rfl
        have t0 := blk_free R6.out 0
        have t1 := blk_free R6.out 1
        have t2 := blk_free R6.out 2
        clear hE2 e hE hA
        by_cases hL1 : 120 < L.length
        · have hd3 : decide ((120 : Int) < (L.length : Int)) = true := decide_eq_true (by omega)
          have HUO := hid (show ∀ W, UnitOut G fs (.returned (.tuple #[.agg #[.int .i64 0, .slice none 0 0, .slice none 0 0], .int .i64 5])) W from fun W => by
            unfold UnitOut
            rw [hUO.out, HE.out]
            simp only [if_pos hL1])
          go_wp2_with fail
          have Q := hid (blk_3 (x := .int .i64 0) (y := .slice none 0 0) (z := .slice none 0 0) R6.out)
          refine bodyPost_ret (ret_prog rfl rfl rfl Q.out.1) rfl ?_
          exact ⟨HUO.out _, LL.out.trans (Q.out.2.below LL.out.size (fun k q => by subst q; exact hrn.out))⟩
        · have hd3 : decide ((120 : Int) < (L.length : Int)) = false := decide_eq_false (by omega)
          have hUe := hid (show unitC G fs = .ok (xs.map Prod.fst) L by rw [hUO.out, HE.out]; simp only [if_neg hL1])
          obtain ⟨va, vc, rfl⟩ := row_shape HC.out.row
          have q0 : wr.cell? ⟨pb, 0, none⟩ = some (.int .i64 G) := blk_cellZ HB.out 0 rfl
          have q1 : wr.cell? ⟨pb, 1, none⟩ = some (.slice none 0 0) := blk_cellZ HB.out 1 rfl
          have q2 : wr.cell? ⟨pb, 2, none⟩ = some (.slice va xs.length vc) := blk_cellZ HB.out 2 rfl
          have f1 := blk_free HB.out 1
          have n1 : rb ≠ pb := by have := hrl.out; omega
          have n2 : pb ≠ rb := fun e => n1 e.symm
          have W8 := hid (Keep.set (S := fun b => b = pb) rfl wr 1 (.slice ta L.length tc))
          have PB8 := hid (show Blk pb 30 #[.int .i64 G, .slice ta L.length tc, .slice va xs.length vc] (wr.setCell ⟨pb, 1, none⟩ (.slice ta L.length tc)) by have := blk_set HB.out 1 (.slice ta L.length tc); simpa using this)
          have R8 := hid (blk_keep R6.out W8.out (fun e => n1 e))
          have HC8 := hid (HC.out.keep (T := fun b => T b ∨ X b) W8.out (fun b _ h e => h (.inr ((hX.out b).2 (.inl e)))) (fun _ _ q => q))
          have HA8 := hid (HA.out.keep (c := wr.setCell ⟨pb, 1, none⟩ (.slice ta L.length tc)) (fun b hb => W8.out.block b (HA.out.lt hb) (fun e => by have := (hT.out b (hft b hb)).1; omega)))
          have hP8 := hid (fun b (hb : FtP pl m (.slice ta L.length tc) b) => (hT.out b (hft b hb)).1)
          have L8 := hid (LL.out.trans (W8.out.below LL.out.size (fun k q => by subst q; exact hpbB)))
          go_wp2_with fail
          generalize wr.setCell ⟨pb, 1, none⟩ (.slice ta L.length tc) = w8 at *
          have Q := hid (blk_3 (x := .int .i64 G) (y := .slice ta L.length tc) (z := .slice va xs.length vc) R8.out)
          generalize hW9 : ((w8.setCell ⟨rb, 0, none⟩ (.int .i64 G)).setCell ⟨rb, 1, none⟩ (.slice ta L.length tc)).setCell ⟨rb, 2, none⟩ (.slice va xs.length vc) = w9 at *
          refine bodyPost_ret (ret_prog rfl rfl rfl Q.out.1) rfl ?_
          refine ⟨?_, L8.out.trans (Q.out.2.below L8.out.size (fun k q => by subst q; exact hrn.out))⟩
          have HC9 := HC8.out.keep (T := fun b => T b ∨ X b) Q.out.2 (fun b _ h e => h (.inr ((hX.out b).2 (.inr e)))) (fun _ _ q => q)
          have HA9 := HA8.out.keep (c := w9) (fun b hb => Q.out.2.block b (HA8.out.lt hb) (fun e => by have := hP8.out b hb; have := hrl.out; omega))
          unfold UnitOut
          rw [hUe.out]
          obtain ⟨u1, u2, u3, _⟩ := HOK.out _ _ hUe.out
          refine ⟨_, _, rfl, ⟨?_, HC9.cds, ⟨by simp only; omega, by simp only; rw [u2]; omega⟩, fun c hc => Nat.le_trans (built_ins u1 c hc) (by decide), fun s hs => ?_⟩⟩
          · rcases Nat.eq_zero_or_pos L.length with h0 | h0
            · have hx := List.length_eq_zero_iff.1 h0
              subst hx
              exact .inl ⟨ta, tc, rfl, rfl⟩
            · obtain ⟨g, cap, e, _, hg⟩ := HA9.row.form h0
              rw [e]
              refine .inr ⟨g, 0, cap, rfl, hg, fun i s hs => ?_⟩
              have hr := HA9.row
              rw [e] at hr
              rw [Nat.zero_add]
              exact row_cell hr (by simp [hs])
          · unfold sizesB at u3
            simp only [Bool.and_eq_true] at u3
            have := List.all_eq_true.1 u3.2.2.2.1 s hs
            have := of_decide_eq_true this
            unfold maxLen; omega
end Go.Proofs.YtgdbaceehpcgbaaDoor
