/- One function's sites: which there are, and what each is. SetProto, Put, Next, Grow. A heap as text. -/
import Derived.Test.YtimhgbcanmgajaaGreatSiMem
import Derived.Test.YtimhgbcanmgajaaGreatJoint6
import Derived.Test.YtimhgbcanmgajaaGreatJoint2
import Derived.Test.YtimhgbcanmgajaaGreatHpDel
import Derived.Test.YtimhgbcanmgajaaGreatJoint14
import Derived.Test.YtimhgbcanmgajaaGreatJoint1
namespace Go.Proofs.YtimhgbcanmgajaaGreat
set_option linter.unusedSimpArgs false
set_option linter.unusedVariables false
set_option maxRecDepth 100000
open Go.RowKit

section
variable {K s : Nat} {T : Tb} {tb n g cap : Nat} {fs : List Fm} {col : Nat → Nat}
theorem smade_calls (w : World) (p : TbAt K s T tb n g cap fs col w) :
    Calls Tryz.prog 78 #[.pointer (some ⟨tb, 0, none⟩)] w fun e w' => e = .returned (.bool true) ∧ w' = w := by
  obtain ⟨c0, c1, _, _⟩ := p.cells
  obtain ⟨l0, l1, l2⟩ := p.lt
  clear p
  go_enter Tryz.func78, Tryz.ntmps78
  go_wp2_with fail
  go_ret
  exact ⟨rfl, rfl⟩
theorem sfun_some (w : World) (p : TbAt K s T tb n g cap fs col w) {f : Nat} (hf : f < fs.length) :
    Calls Tryz.prog 68 #[.pointer (some ⟨tb, 0, none⟩), .int .i64 (f : Int)] w fun e w' => e = .returned (.pointer (some ⟨g, f * 3, none⟩)) ∧ w' = w := by
  obtain ⟨c0, c1, _, _⟩ := p.cells
  obtain ⟨l0, l1, l2⟩ := p.lt
  have HM := hid (smade_calls w p)
  have h0 : ¬ (f : Int) < 0 := by omega
  have h1 : ¬ (fs.length : Int) ≤ (f : Int) := by omega
  clear p
  go_enter Tryz.func68, Tryz.ntmps68
  go_wp2_with fail
  refine HM.out.mono ?_
  rintro e1 w1 ⟨rfl, rfl⟩
  go_wp2_with fail
  go_ret
  exact ⟨rfl, rfl⟩
theorem sfun_none (w : World) (p : TbAt K s T tb n g cap fs col w) {f : Int} (hf : f < 0 ∨ (fs.length : Int) ≤ f) :
    Calls Tryz.prog 68 #[.pointer (some ⟨tb, 0, none⟩), .int .i64 f] w fun e w' => e = .returned (.pointer none) ∧ w' = w := by
  obtain ⟨c0, c1, _, _⟩ := p.cells
  obtain ⟨l0, l1, l2⟩ := p.lt
  have HM := hid (smade_calls w p)
  clear p
  by_cases h0 : f < 0
  · clear hf
    go_enter Tryz.func68, Tryz.ntmps68
    go_wp2_with fail
    refine HM.out.mono ?_
    rintro e1 w1 ⟨rfl, rfl⟩
    go_wp2_with fail
    go_ret
    exact ⟨rfl, rfl⟩
  · have h1 : (fs.length : Int) ≤ f := by omega
    clear hf
    go_enter Tryz.func68, Tryz.ntmps68
    go_wp2_with fail
    refine HM.out.mono ?_
    rintro e1 w1 ⟨rfl, rfl⟩
    go_wp2_with fail
    go_ret
    exact ⟨rfl, rfl⟩
theorem shas_none (w : World) (k : Int) :
    Calls Tryz.prog 72 #[.pointer none, .int .i64 k] w fun e w' => e = .returned (.bool false) ∧ w' = w := by
  go_enter Tryz.func72, Tryz.ntmps72
  go_wp2_with fail
  go_ret
  exact ⟨rfl, rfl⟩
theorem shas_calls (w : World) (p : TbAt K s T tb n g cap fs col w) {f : Nat} {F : Fm} (hf : fs[f]? = some F) (k : Int) :
    Calls Tryz.prog 72 #[.pointer (some ⟨g, f * 3, none⟩), .int .i64 k] w fun e w' => e = .returned (.bool (decide (0 ≤ k ∧ k < F.count))) ∧ w' = w := by
  obtain ⟨z0, z1, z2⟩ := p.fcell hf
  obtain ⟨l0, l1, l2⟩ := p.lt
  clear p hf
  by_cases h0 : 0 ≤ k
  · by_cases h1 : k < F.count
    · rw [show decide (0 ≤ k ∧ k < F.count) = true from decide_eq_true ⟨h0, h1⟩]
      go_enter Tryz.func72, Tryz.ntmps72
      go_wp2_with fail
      go_ret
      exact ⟨rfl, rfl⟩
    · rw [show decide (0 ≤ k ∧ k < F.count) = false from decide_eq_false (fun h => h1 h.2)]
      have h2 : F.count ≤ k := by omega
      go_enter Tryz.func72, Tryz.ntmps72
      go_wp2_with fail
      go_ret
      exact ⟨rfl, rfl⟩
  · rw [show decide (0 ≤ k ∧ k < F.count) = false from decide_eq_false (fun h => h0 h.1)]
    have h2 : k < 0 := by omega
    go_enter Tryz.func72, Tryz.ntmps72
    go_wp2_with fail
    go_ret
    exact ⟨rfl, rfl⟩

theorem undC : Tryz.prog.underlying 95 = some (.map 3 136) := by kernel_rfl
theorem zeroC (w : World) : (zeroValue 136).run Tryz.prog w = .ok (.pointer none) w := by kernel_rfl
/-- the site at which one is: its block, and whether it's the function's already -/
theorem scell_at (w : World) (p : TbAt K s T tb n g cap fs col w) {f k : Nat} {F : Fm} {r : List St} {t : St} (hf : fs[f]? = some F) (hr : T.all[f]? = some r) (ht : r[k]? = some t) (hm : t.mega = true → t.l = []) :
    Calls Tryz.prog 73 #[.pointer (some ⟨g, f * 3, none⟩), .int .i64 (k : Int)] w fun e w' => Below w.heap.size w w' ∧
      ((∃ x, F.mega = false ∧ F.cel (k : Int) = some x ∧ e = .returned (.pointer (some ⟨x, 0, none⟩)) ∧ w' = w) ∨
       ((F.mega = true ∨ F.cel (k : Int) = none) ∧ e = .returned (.pointer (some ⟨w.heap.size, 0, none⟩)) ∧ CeAt s w.heap.size t (.slice none 0 0) [] w' ∧ (F.mega = false → t = st0) ∧ w' = w.alloc (.cells (ceC t (.slice none 0 0)) 208))) := by
  obtain ⟨z0, z1, z2⟩ := p.fcell hf
  obtain ⟨l0, l1, l2⟩ := p.lt
  have hF := p.fn f F r hf hr
  have hnew : ∀ t' : St, t'.l = [] → CeAt s w.heap.size t' (.slice none 0 0) [] (w.alloc (.cells (ceC t' (.slice none 0 0)) 208)) := fun t' h => ⟨blk_new _ _ _, World.ownsRow_nil _ _ _ _, h.symm, fun p hp => by cases hp⟩
  cases hg : F.mega with
  | true =>
    have hmt := hF.meg hg t (List.mem_of_getElem? ht)
    rw [hg] at z1
    have e1 : ceC t (.slice none 0 0) = #[.string ⟨#[]⟩, .bool false, .bool false, .bool true, .slice none 0 0] := by unfold ceC; rw [if_pos hmt]
    have HN := hid (hnew t (hm hmt))
    rw [e1] at HN ⊢
    clear p hf hr ht hF hnew e1 hmt hm
    go_enter Tryz.func73, Tryz.ntmps73
    go_wp2_with fail
    go_ret
    exact ⟨(Below.refl _ _).alloc (Nat.le_refl _) _, .inr ⟨.inl (by first | trivial | rfl | assumption), rfl, HN.out, (by first | (intro h; cases h) | (intro h; trivial) | simp), rfl⟩⟩
  | false =>
    rw [hg] at z1
    have hI : I64 (k : Int) := by
      have := hF.cnt
      have := hF.big
      have := lt_of_get ht
      unfold I64
      omega
    cases hc : F.cel (k : Int) with
    | some x =>
      cases hmm : F.m with
      | none => exact absurd (hF.nil hmm k) (by rw [hc]; simp)
      | some m =>
        obtain ⟨⟨c, hM, _⟩, _⟩ := hF.map m hmm
        rw [hmm] at z2
        clear p hf hr hF hnew hm
        go_enter Tryz.func73, Tryz.ntmps73
        go_wp2_with (first | (at_lookup; refine gp_look undC zeroC rfl _ _ rfl m c F.cel (k : Int) rfl hM rfl hI ?_; rw [hc]; unfold pO) | fail)
        go_ret
        exact ⟨Below.refl _ _, .inl ⟨x, (by first | trivial | rfl | assumption), (by first | trivial | rfl | assumption), rfl, rfl⟩⟩
    | none =>
      have h0 := hF.old hg k t ht hc
      have e1 : ceC t (.slice none 0 0) = #[.string ⟨#[]⟩, .bool false, .bool false, .bool false, .slice none 0 0] := by rw [h0]; rfl
      have HN := hid (hnew t (by rw [h0]; rfl))
      rw [e1] at HN ⊢
      cases hmm : F.m with
      | none =>
        rw [hmm] at z2
        have HL := fun w => gp_look_nil undC zeroC w hI
        clear p hf hr hF hnew hm e1 ht
        go_enter Tryz.func73, Tryz.ntmps73
        go_wp2_with fail
        go_ret
        exact ⟨(Below.refl _ _).alloc (Nat.le_refl _) _, .inr ⟨.inr (by first | trivial | rfl | assumption), rfl, HN.out, fun _ => h0, rfl⟩⟩
      | some m =>
        obtain ⟨⟨c, hM, _⟩, _⟩ := hF.map m hmm
        rw [hmm] at z2
        clear p hf hr hF hnew hm e1 ht
        go_enter Tryz.func73, Tryz.ntmps73
        go_wp2_with (first | (at_lookup; refine gp_look undC zeroC rfl _ _ rfl m c F.cel (k : Int) rfl hM rfl hI ?_; rw [hc]; unfold pO) | fail)
        go_ret
        exact ⟨(Below.refl _ _).alloc (Nat.le_refl _) _, .inr ⟨.inr (by first | trivial | rfl | assumption), rfl, HN.out, fun _ => h0, rfl⟩⟩
end
end Go.Proofs.YtimhgbcanmgajaaGreat

namespace Go.Proofs.YtimhgbcanmgajaaGreat
set_option linter.unusedSimpArgs false
set_option maxRecDepth 100000
open Go.RowKit

set_option maxHeartbeats 1000000 in
theorem hsetproto_z {S : Nat → Prop} {K h s : Nat} {H : He} (w : World) (p : HpZ S K h s H w) (h40 : 40 ≤ K) (hK2 : K ≤ 900000) (o a : Int) :
    Calls Tryz.prog 24 #[.pointer (some ⟨h, 0, none⟩), .int .i64 o, .int .i64 a] w fun e w' => e = .returned (.int .i64 (protoE H o a)) ∧ HpZ (Up S w) (K + 1) h s (protoS H o a) w' ∧ Keep S w w' := by
  have HM := hid (hmade_calls w p.s)
  have R := hid (show ∀ w', Below w.heap.size w w' → HpZ (Up S w) (K + 1) h s H w' ∧ Keep S w w' from fun w' b => ⟨((p.on b).more (Nat.le_succ _)).mono (fun _ _ e => .inl e), Keep.of b⟩)
  cases hg : getO H o with
  | none =>
    rw [show protoE H o a = 4 by unfold protoE; rw [hg], show protoS H o a = H by unfold protoS; rw [hg]]
    have HN := hid (hat_none w p.s hg)
    clear p hg
    go_enter Tryz.func24, Tryz.ntmps24
    go_wp2_with fail
    refine HM.out.mono ?_
    rintro e0 w0 ⟨rfl, rfl⟩
    go_wp2_with fail
    refine HN.out.mono ?_
    rintro e1 w1 ⟨rfl, rfl⟩
    go_wp2_with fail
    go_ret
    exact ⟨rfl, R.out _ (Below.refl _ _)⟩
  | some x =>
    obtain ⟨i, rfl, hi⟩ := getO_some hg
    have hE : protoE H ((i + 1 : Nat) : Int) a = if a ≠ 0 ∧ getO H a = none then 4 else if onH H ((i + 1 : Nat) : Int) a then 32 else 0 := by unfold protoE; rw [hg]; rfl
    have hP : protoS H ((i + 1 : Nat) : Int) a = if a ≠ 0 ∧ getO H a = none then H else if onH H ((i + 1 : Nat) : Int) a then H else if x.sh = 0 then putI H i { x with pr := a.toNat, ep := x.ep + 1 } else putI { H with L := (moveP H.M H.L x.sh a).2 } i { x with pr := a.toNat, ep := x.ep + 1, sh := (moveP H.M H.L x.sh a).1 } := by
      unfold protoS
      rw [hg]
      dsimp only
      rw [putO_succ, putO_succ]
      rfl
    rw [hE, hP]
    clear hE hP
    have hpp := p
    obtain ⟨c, n, f, v, g, q, col, p, hS⟩ := p
    have HN := hid (hat_some w p (lt_of_get hi))
    by_cases hz : a = 0
    · subst hz
      have hon : onH H ((i + 1 : Nat) : Int) 0 = false := by rw [onH_step p.wf, if_pos (by omega)]
      have hc : ¬ ((0 : Int) ≠ 0 ∧ getO H 0 = none) := by simp
      rw [if_neg hc, if_neg hc, hon]
      simp only [Bool.false_eq_true, if_false]
      by_cases h0 : x.sh = 0
      · rw [if_pos h0]
        exact hproto_dict0 w p h40 hK2 hi hS h0 0 (Nat.zero_le _) rfl hon
      · rw [if_neg h0]
        exact hproto_slot0 w p h40 hK2 hi hS h0 0 (Nat.zero_le _) rfl hon
    · have hz' : (a != 0) = true := by simpa using hz
      rcases Option.eq_none_or_eq_some (getO H a) with hga | ⟨y, hga⟩
      · have hc : a ≠ 0 ∧ getO H a = none := ⟨hz, hga⟩
        rw [if_pos hc, if_pos hc]
        clear hc
        have HN2 := hid (hat_none w hpp.s hga)
        clear p hg hS hga hpp hi
        generalize ((i + 1 : Nat) : Int) = o at *
        go_enter Tryz.func24, Tryz.ntmps24
        go_wp2_with fail
        refine HM.out.mono ?_
        rintro e0 w0 ⟨rfl, rfl⟩
        go_wp2_with fail
        refine HN.out.mono ?_
        rintro e1 w1 ⟨rfl, rfl⟩
        go_wp2_with fail
        refine HN2.out.mono ?_
        rintro e2 w2 ⟨rfl, rfl⟩
        go_wp2_with fail
        go_ret
        exact ⟨rfl, R.out _ (Below.refl _ _)⟩
      · have hc : ¬ (a ≠ 0 ∧ getO H a = none) := fun h => by rw [hga] at h; cases h.2
        rw [if_neg hc, if_neg hc]
        clear hc
        obtain ⟨a', rfl, ha'⟩ := getO_some hga
        cases hon : onH H ((i + 1 : Nat) : Int) ((a' + 1 : Nat) : Int) with
        | true =>
          simp only [if_true]
          have HN2 := hid (hat_some w p (lt_of_get ha'))
          have HC := hid (honchain_calls w hpp.s hK2 ((i + 1 : Nat) : Int) ((a' + 1 : Nat) : Int))
          rw [hon] at HC
          clear p hg hS hga hpp hi hon ha'
          generalize ((i + 1 : Nat) : Int) = o at *
          generalize ((a' + 1 : Nat) : Int) = z at *
          go_enter Tryz.func24, Tryz.ntmps24
          go_wp2_with fail
          refine HM.out.mono ?_
          rintro e1 w1 ⟨rfl, rfl⟩
          go_wp2_with fail
          refine HN.out.mono ?_
          rintro e2 w2 ⟨rfl, rfl⟩
          go_wp2_with fail
          refine HN2.out.mono ?_
          rintro e3 w3 ⟨rfl, rfl⟩
          go_wp2_with fail
          refine HC.out.mono ?_
          rintro e4 w4 ⟨rfl, b4⟩
          have R4 := hid (R.out _ b4)
          clear b4
          go_wp2_with fail
          go_ret
          exact ⟨rfl, R4.out⟩
        | false =>
          simp only [Bool.false_eq_true, if_false]
          have hla := lt_of_get ha'
          rw [Int.toNat_natCast]
          by_cases h0 : x.sh = 0
          · rw [if_pos h0]
            exact hproto_dict w p h40 hK2 hi hS h0 (a' + 1) (by omega) (by omega) hon
          · rw [if_neg h0]
            exact hproto_slot w p h40 hK2 hi hS h0 (a' + 1) (by omega) (by omega) hon
theorem hsetproto_calls {S : Nat → Prop} {K h : Nat} {H : He} (w : World) (p : HpS S K h H w) (h40 : 40 ≤ K) (hK2 : K ≤ 900000) (o a : Int) :
    Calls Tryz.prog 24 #[.pointer (some ⟨h, 0, none⟩), .int .i64 o, .int .i64 a] w fun e w' => e = .returned (.int .i64 (protoE H o a)) ∧ HpS (Up S w) (K + 1) h (protoS H o a) w' ∧ Keep S w w' := by
  obtain ⟨s, p⟩ := p
  exact (hsetproto_z w p h40 hK2 o a).mono fun e w' t => ⟨t.1, ⟨s, t.2.1⟩, t.2.2⟩
set_option maxHeartbeats 1000000 in
theorem hput_z {S : Nat → Prop} {K h s : Nat} {H : He} (w : World) (p : HpZ S K h s H w) (o j : Int) (u : Vl) :
    Calls Tryz.prog 111 #[.pointer (some ⟨h, 0, none⟩), .int .i64 o, .int .i64 j, vlV u] w fun e w' => e = .returned (.bool (putB H o j)) ∧ HpZ (Up S w) K h s (putH H o j u) w' ∧ Keep S w w' := by
  have A := (Below.refl w.heap.size w).alloc (Nat.le_refl _) (Obj.cells #[.int .i64 u.1, .int .i64 u.2.1, .string u.2.2] 37)
  cases hg : slotsO H o with
  | none =>
    have hn := slotsO_none hg
    have e1 : putH H o j u = H := by
      unfold putH
      cases hgo : getO H o with
      | none => rfl
      | some x =>
        have : x.sh = 0 := by have := hn.1; unfold shapeH at this; rw [hgo] at this; exact this
        dsimp only
        rw [if_pos (.inl this)]
    rw [show putB H o j = false by unfold putB; rw [hn.2 j]; rfl, e1]
    have HN := hid (hslots_none _ (p.on A).s hg)
    have R := hid (show HpZ (Up S w) K h s H _ ∧ Keep S w _ from ⟨(p.on A).mono (fun _ _ e => .inl e), Keep.of A⟩)
    clear p hg hn e1 A
    unfold vlV
    go_enter Tryz.func111, Tryz.ntmps111
    go_wp2_with fail
    refine HN.out.mono ?_
    rintro e0 w0 ⟨rfl, rfl⟩
    go_wp2_with fail
    go_ret
    exact ⟨rfl, R.out⟩
  | some x =>
    obtain ⟨i, rfl, hi, h0, hgo⟩ := slotsO_some hg
    obtain ⟨c, n, f, v, g, q, col, p, hS⟩ := p
    have pA := p.on A
    have HN := hid (hslots_some _ pA hi h0)
    obtain ⟨vv, h1, h2⟩ := pA.slotted hi h0
    have HV := hid (sput_calls _ h1 j u)
    have eB : putB H ((i + 1 : Nat) : Int) j = (slotL x.l j).isSome := by unfold putB slotH; rw [hgo]; simp [h0]
    have eH : putH H ((i + 1 : Nat) : Int) j u = putI H i { x with l := putL x.l j u } := by
      unfold putH
      rw [hgo]
      dsimp only
      unfold putL
      by_cases hj : j < 0
      · rw [if_pos (.inr hj), if_neg (by omega)]
        exact (putI_self hi).symm
      · rw [if_neg (by rintro (h | h); exact h0 h; exact hj h), if_pos (by omega), putO_succ]
    rw [eB, eH]
    have wf : WfH K (putI H i { x with l := putL x.l j u }) := by
      unfold putL
      by_cases hj : 0 ≤ j
      · rw [if_pos hj]; exact putv_wf p.wf hi u
      · rw [if_neg hj]; rw [show ({ x with l := x.l } : Ob) = x from rfl, putI_self hi]; exact p.wf
    have HP := hid pA
    have HI := hid hi
    have HS := hid hS
    have HW := hid wf
    have H2 := hid h2
    have H0 := hid h0
    have HA := hid A
    unfold vlV at HV ⊢
    clear p pA hi hS wf h1 h2 hg hgo eB eH A h0
    generalize ((i + 1 : Nat) : Int) = o at *
    generalize hW0 : (w.alloc (Obj.cells #[.int .i64 u.1, .int .i64 u.2.1, .string u.2.2] 37)) = w0 at *
    have z0 : w0.cell? ⟨w.heap.size, 0, none⟩ = some (.int .i64 u.1) := by rw [← hW0]; simp
    have z1 : w0.cell? ⟨w.heap.size, 1, none⟩ = some (.int .i64 u.2.1) := by rw [← hW0]; simp
    have z2 : w0.cell? ⟨w.heap.size, 2, none⟩ = some (.string u.2.2) := by rw [← hW0]; simp
    go_enter Tryz.func111, Tryz.ntmps111
    go_wp2_with fail
    refine HN.out.mono ?_
    rintro e1 w1 ⟨rfl, rfl⟩
    go_wp2_with fail
    refine HV.out.mono ?_
    rintro e2 w2 ⟨rfl, k1, k2⟩
    have k2' := k2.mono (T := fun b => col b = 4 + i) (fun b _ e => H2.out b e)
    obtain ⟨r1, r2⟩ := (chg_part (x' := { x with l := putL x.l j u }) HP.out HI.out (Nat.le_refl _) rfl rfl HW.out k2' (.inl ⟨H0.out, vv, k1, fun b hb => .inl (H2.out b hb)⟩)).done HS.out
    have R := hid (show HpZ (Up S w) K h s (putI H i { x with l := putL x.l j u }) w2 ∧ Keep S w w2 from ⟨r1.mono (fun b hb e => by rcases e with e | e; exact .inl e; exact .inr (Nat.le_trans HA.out.size e)), (Keep.of HA.out).trans r2 (fun _ _ e => e)⟩)
    clear k1 k2 k2' r1 r2 HV
    go_wp2_with fail
    go_ret
    exact ⟨rfl, R.out⟩

theorem hput_calls {S : Nat → Prop} {K h : Nat} {H : He} (w : World) (p : HpS S K h H w) (o j : Int) (u : Vl) :
    Calls Tryz.prog 111 #[.pointer (some ⟨h, 0, none⟩), .int .i64 o, .int .i64 j, vlV u] w fun e w' => e = .returned (.bool (putB H o j)) ∧ HpS (Up S w) K h (putH H o j u) w' ∧ Keep S w w' := by
  obtain ⟨s, p⟩ := p
  exact (hput_z w p o j u).mono fun e w' t => ⟨t.1, ⟨s, t.2.1⟩, t.2.2⟩
end Go.Proofs.YtimhgbcanmgajaaGreat

namespace Go.Proofs.YtimhgbcanmgajaaGreat
set_option linter.unusedSimpArgs false
open Go.RowKit

def bys (s : ByteArray) : List UInt8 := s.data.toList
def entT (e : Ent) : List UInt8 := 32 :: bys e.1 ++ 58 :: printB e.2.1 e.2.2.1 (bys e.2.2.2)
def entsT (l : List Ent) : List UInt8 := l.flatMap entT
def obT (k : Nat) (x : Ob) : List UInt8 := (35 :: digs ((k + 1 : Nat) : Int)) ++ [32] ++ (35 :: digs (x.pr : Int)) ++ entsT x.l ++ [10]
def dumpL : Nat → List Ob → List UInt8
  | _, [] => []
  | k, x :: r => obT k x ++ dumpL (k + 1) r
def dumpT (H : He) : List UInt8 := dumpL 0 H.os
theorem dumpL_snoc : ∀ (l : List Ob) (k : Nat) (x : Ob), dumpL k (l ++ [x]) = dumpL k l ++ obT (k + l.length) x
  | [], k, x => by simp [dumpL]
  | y :: r, k, x => by
    rw [List.cons_append, dumpL, dumpL_snoc r (k + 1) x, dumpL, List.append_assoc, List.length_cons, show k + 1 + r.length = k + (r.length + 1) by omega]
theorem dump_take {H : He} {k : Nat} {x : Ob} (h : H.os[k]? = some x) : dumpL 0 (H.os.take (k + 1)) = dumpL 0 (H.os.take k) ++ obT k x := by
  rw [List.take_add_one, h, show (some x).toList = [x] from rfl, dumpL_snoc]
  have := lt_of_get h
  rw [List.length_take, show 0 + min k H.os.length = k by omega]
theorem ents_take {l : List Ent} {k : Nat} {e : Ent} (h : l[k]? = some e) : entsT (l.take (k + 1)) = entsT (l.take k) ++ entT e := by
  unfold entsT
  rw [List.take_add_one, h, show (some e).toList = [e] from rfl, List.flatMap_append]
  simp
/-- values that fit -/
def VFit (v : Vl) : Prop := I64 v.2.1 ∧ v.2.2.size ≤ 1000000
def LFit (l : List Ent) : Prop := ∀ e ∈ l, VFit e.2
def HFit (H : He) : Prop := ∀ (i : Nat) (x : Ob), H.os[i]? = some x → LFit x.l
theorem setL_mem : ∀ {l : List Ent} {s : ByteArray} {v : Vl} {e : Ent}, e ∈ setL l s v → e ∈ l ∨ e.2 = v
  | [], s, v, e, h => by
    simp [setL] at h
    exact .inr (by rw [h])
  | (t, u) :: r, s, v, e, h => by
    unfold setL at h
    split at h
    · simp at h
      rcases h with h | h
      · exact .inr (by rw [h])
      · exact .inl (by simp [h])
    · simp at h
      rcases h with h | h
      · exact .inl (by simp [h])
      · rcases setL_mem h with h | h
        · exact .inl (by simp [h])
        · exact .inr h
theorem lfit_set {l : List Ent} {s : ByteArray} {v : Vl} (h : LFit l) (hv : VFit v) : LFit (setL l s v) := fun e he => by
  rcases setL_mem he with h1 | h1
  · exact h e h1
  · rw [h1]; exact hv
theorem lfit_more {l : List Ent} {s : ByteArray} {v : Vl} (h : LFit l) (hv : VFit v) : LFit (l ++ [(s, v)]) := fun e he => by
  simp at he
  rcases he with h1 | h1
  · exact h e h1
  · rw [h1]; exact hv
theorem lfit_drop {l : List Ent} {s : ByteArray} (h : LFit l) : LFit (dropL l s) := fun e he => h e (List.mem_filter.1 he).1
theorem lfit_at {l : List Ent} {k : Nat} {v : Vl} (h : LFit l) (hv : VFit v) : LFit (setAt l k v) := fun e he => by
  unfold setAt at he
  split at he
  · rcases List.mem_or_eq_of_mem_set he with h1 | h1
    · exact h e h1
    · rw [h1]; exact hv
  · exact h e he
theorem hfit_put {H : He} {i : Nat} {x : Ob} (h : HFit H) (hx : LFit x.l) : HFit (putI H i x) := fun j y hj => by
  rcases set_get hj with ⟨_, rfl, _⟩ | ⟨_, hj⟩
  · exact hx
  · exact h j y hj
theorem hfit_os {H H' : He} (h : HFit H) (e : H'.os = H.os) : HFit H' := fun i x hi => h i x (by rw [← e]; exact hi)
theorem next_os (H : He) (id : Int) (s : ByteArray) : (nextH H id s).os = H.os := by unfold nextH; split <;> rfl
theorem hfit_new (a b k : Int) : HFit (newH a b k) := fun i x h => by simp [newH] at h
theorem hfit_make {H : He} (h : HFit H) : HFit (makeH H) := by
  unfold makeH
  split
  · exact h
  · intro i x hi
    rcases get_snoc hi with hi | ⟨_, rfl⟩
    · exact h i x hi
    · intro e he
      cases he
theorem hfit_at {H : He} {o : Int} {x : Ob} (h : HFit H) (hx : getO H o = some x) : LFit x.l := by
  obtain ⟨i, rfl, hi⟩ := getO_some hx
  exact h i x hi
theorem hfit_set {H : He} {o : Int} {s : ByteArray} {v : Vl} (h : HFit H) (hv : VFit v) : HFit (setH H o s v) := by
  unfold setH
  cases hg : getO H o with
  | none => exact h
  | some x =>
    have hx := hfit_at h hg
    obtain ⟨i, rfl, hi⟩ := getO_some hg
    dsimp only
    rw [putO_succ, putO_succ]
    split
    · exact hfit_put h (lfit_set hx hv)
    · split
      · exact h
      · exact hfit_put (hfit_os h (next_os _ _ _)) (lfit_more hx hv)
theorem hfit_del {H : He} {o : Int} {s : ByteArray} (h : HFit H) : HFit (delH H o s) := by
  unfold delH
  cases hg : getO H o with
  | none => exact h
  | some x =>
    have hx := hfit_at h hg
    obtain ⟨i, rfl, hi⟩ := getO_some hg
    dsimp only
    rw [putO_succ]
    split
    · exact hfit_put h (lfit_drop hx)
    · exact h
theorem hfit_proto {H : He} {o p : Int} (h : HFit H) : HFit (protoS H o p) := by
  unfold protoS
  cases hg : getO H o with
  | none => exact h
  | some x =>
    have hx := hfit_at h hg
    obtain ⟨i, rfl, hi⟩ := getO_some hg
    dsimp only
    rw [putO_succ, putO_succ]
    split
    · exact h
    · split
      · exact h
      · split
        · exact hfit_put h hx
        · exact hfit_put (hfit_os h rfl) hx
theorem hfit_putv {H : He} {o j : Int} {v : Vl} (h : HFit H) (hv : VFit v) : HFit (putH H o j v) := by
  unfold putH
  cases hg : getO H o with
  | none => exact h
  | some x =>
    have hx := hfit_at h hg
    obtain ⟨i, rfl, hi⟩ := getO_some hg
    dsimp only
    rw [putO_succ]
    split
    · exact h
    · exact hfit_put h (lfit_at hx hv)
theorem hfit_grow {H : He} {o to : Int} {v : Vl} (h : HFit H) (hv : VFit v) : HFit (growH H o to v) := by
  unfold growH
  cases hg : getO H o with
  | none => exact h
  | some x =>
    have hx := hfit_at h hg
    obtain ⟨i, rfl, hi⟩ := getO_some hg
    dsimp only
    rw [putO_succ]
    split
    · exact h
    · split
      · exact h
      · exact hfit_put h (lfit_more hx hv)

end Go.Proofs.YtimhgbcanmgajaaGreat
