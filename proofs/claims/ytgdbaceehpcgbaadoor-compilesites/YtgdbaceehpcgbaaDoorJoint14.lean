/- May a program's sizes be: the program's word. What comes of a unit that may be: a program that may be. -/
import Derived.Test.YtgdbaceehpcgbaaDoorJoint12
import Derived.Test.YtgdbaceehpcgbaaDoorJoint13
namespace Go.Proofs.YtgdbaceehpcgbaaDoor
set_option linter.unusedSimpArgs false
set_option maxRecDepth 100000
open Go.RowKit

/-- a program -/
structure Pg where
  g : Int
  pool : List ByteArray
  codes : List Cd
def zeroC (cs : List Cd) : Bool := match cs with | [] => false | c :: _ => (c.p == 0) && (c.l == 0)
def strsB (ss : List ByteArray) : Bool := ss.all fun s => decide (s.size ≤ 256)
def sizesB (P : Pg) : Bool := inZ P.g 0 24 && (inZ P.codes.length 1 32 && (decide (P.pool.length ≤ 120) && (strsB P.pool && zeroC P.codes)))
theorem strsB_step {ss : List ByteArray} {i : Nat} {s : ByteArray} (h : ss[i]? = some s) : strsB (ss.drop i) = (decide (s.size ≤ 256) && strsB (ss.drop (i + 1))) := by
  have hi := (List.getElem?_eq_some_iff.1 h).1
  rw [List.drop_eq_getElem_cons hi]
  have : ss[i] = s := Option.some.inj ((List.getElem?_eq_getElem hi).symm.trans h)
  rw [this]
  rfl
abbrev pgV (P : Pg) (pv cv : Value) : Value := .agg #[.int .i64 P.g, pv, cv]
set_option maxHeartbeats 3200000 in
theorem sizes_calls (B : Nat) (P : Pg) (pv cv : Value) (w : World) (hB : B ≤ w.heap.size) (hP : PlIn B w pv P.pool) (hC : CdsIn B w cv P.codes) (hp : P.pool.length ≤ 1000000) (hc : P.codes.length ≤ 1000000) (hs : ∀ s ∈ P.pool, s.size ≤ maxLen) :
    Calls Tryd.prog 24 #[pgV P pv cv] w fun e w' => e = .returned (.bool (sizesB P)) ∧ Below w.heap.size w w' := by
  have H := hid (show sizesB P = (inZ P.g 0 24 && (inZ P.codes.length 1 32 && (decide (P.pool.length ≤ 120) && (strsB P.pool && zeroC P.codes)))) from rfl)
  generalize sizesB P = R at *
  obtain ⟨G, ss, cs⟩ := P
  simp only [pgV] at *
  obtain ⟨pa, pc, rfl⟩ := plIn_shape hP
  obtain ⟨ca, cc, rfl⟩ := cdsIn_shape hC
  have AL := hid (box_below w (.cells #[.int .i64 G, .slice pa ss.length pc, .slice ca cs.length cc] 30))
  have BL := hid (blk_new w 30 #[.int .i64 G, .slice pa ss.length pc, .slice ca cs.length cc])
  have HS := hid hs
  clear hs
  generalize hW : w.alloc (.cells #[.int .i64 G, .slice pa ss.length pc, .slice ca cs.length cc] 30) = w2 at *
  have HP := hid (plIn_on hP (AL.out.mono hB))
  have HC := hid (cdsIn_on hC (AL.out.mono hB))
  clear hP hC
  have p0 : w2.cell? ⟨w.heap.size, 0, none⟩ = some (.int .i64 G) := blk_cellZ BL.out 0 rfl
  have p1 : w2.cell? ⟨w.heap.size, 1, none⟩ = some (.slice pa ss.length pc) := blk_cellZ BL.out 1 rfl
  have p2 : w2.cell? ⟨w.heap.size, 2, none⟩ = some (.slice ca cs.length cc) := blk_cellZ BL.out 2 rfl
  have W1 := hid (cdwithin_calls G 0 24)
  have W2 := hid (cdwithin_calls cs.length 1 32)
  cases h1 : inZ G 0 24 with
  | false =>
    rw [h1] at H W1
    go_enter Tryd.func24, Tryd.ntmps24
    go_wp2_with fail
    refine (W1.out _).mono ?_
    rintro e w4 ⟨rfl, rfl⟩
    go_wp2_with fail
    go_ret
    exact ⟨by rw [H.out]; rfl, AL.out⟩
  | true =>
  rw [h1] at H W1
  clear h1
  cases h2 : inZ cs.length 1 32 with
  | false =>
    rw [h2] at H W2
    go_enter Tryd.func24, Tryd.ntmps24
    go_wp2_with fail
    refine (W1.out _).mono ?_
    rintro e w4 ⟨rfl, rfl⟩
    go_wp2_with fail
    refine (W2.out _).mono ?_
    rintro e w4 ⟨rfl, rfl⟩
    go_wp2_with fail
    go_ret
    exact ⟨by rw [H.out]; rfl, AL.out⟩
  | true =>
  rw [h2] at H W2
  have g2 := inZ_iff.1 h2
  clear h2
  by_cases h3 : 120 < ss.length
  · have h3' : (120 : Int) < (ss.length : Int) := by omega
    replace H := hid (H.out.trans (show _ = false by rw [decide_eq_false (by omega)]; rfl))
    go_enter Tryd.func24, Tryd.ntmps24
    go_wp2_with fail
    refine (W1.out _).mono ?_
    rintro e w4 ⟨rfl, rfl⟩
    go_wp2_with fail
    refine (W2.out _).mono ?_
    rintro e w4 ⟨rfl, rfl⟩
    go_wp2_with fail
    go_ret
    exact ⟨by rw [H.out]; rfl, AL.out⟩
  replace H := hid (show R = (strsB ss && zeroC cs) by rw [H.out, decide_eq_true (by omega)]; rfl)
  have h3' : ¬ (120 : Int) < (ss.length : Int) := by omega
  obtain ⟨c, hcz⟩ : ∃ c, cs[0]? = some c := ⟨_, List.getElem?_eq_getElem (by omega)⟩
  have HZ := hid (show zeroC cs = ((c.p == 0) && (c.l == 0)) by
    cases cs with
    | nil => simp at hcz
    | cons x r => simp at hcz; subst hcz; rfl)
  obtain ⟨cb, coff, hca, hcb, iv, d0, d1, _, _, _, _⟩ := cdsIn_at HC.out hcz
  subst hca
  rw [Nat.zero_mul, Nat.add_zero] at d0 d1
  obtain ⟨cp, cl, c3, c4, c5⟩ := c
  simp only at d0 d1
  have hcl : (0 : Int) < (cs.length : Int) := by omega
  clear g2 hcz
  go_enter Tryd.func24, Tryd.ntmps24
  go_wp2_with fail
  refine (W1.out _).mono ?_
  rintro e w4 ⟨rfl, rfl⟩
  go_wp2_with fail
  refine (W2.out _).mono ?_
  rintro e w4 ⟨rfl, rfl⟩
  go_wp2_with fail
  clear W1 W2
  go_loopw [25] (fun iV wr => ∃ i : Nat, i ≤ ss.length ∧ iV = .int .i64 i ∧ Hid (R = (strsB (ss.drop i) && zeroC cs)) ∧ wr = w2) (fun iV _ => ss.length - (intOf iV).toNat)
  case atStart => exact ⟨0, by omega, rfl, hid (by rw [H.out]; rfl), rfl⟩
  case round =>
    obtain ⟨i, hi, rfl, hA, rfl⟩ := hrel
    by_cases hil : i < ss.length
    · obtain ⟨s, hx⟩ : ∃ x, ss[i]? = some x := ⟨_, List.getElem?_eq_getElem hil⟩
      have hss := HS.out s (List.mem_of_getElem? hx)
      obtain ⟨pb, poff, hpa, hpb, s0⟩ := plIn_at HP.out hx
      subst hpa
      have hst := hid (hA.out.trans (congrArg (· && zeroC cs) (strsB_step hx)))
      by_cases h4 : 256 < s.size
      · have d2 : decide ((256 : Int) < (s.size : Int)) = true := decide_eq_true (by omega)
        have HN := hid (show R = false by rw [hst.out, decide_eq_false (by omega)]; rfl)
        go_wp2_with fail
        go_ret
        exact ⟨by rw [HN.out]; rfl, AL.out⟩
      · have d2 : decide ((256 : Int) < (s.size : Int)) = false := decide_eq_false (by omega)
        have HN := hid (show R = (strsB (ss.drop (i + 1)) && zeroC cs) by rw [hst.out, decide_eq_true (by omega)]; rfl)
        clear h4
        go_wp2_with fail
        exact ⟨⟨i + 1, by omega, by simp, HN, trivial⟩, by simp [intOf]; omega⟩
    · have hie : i = ss.length := by omega
      subst hie
      replace hA := hid (show R = ((cp == 0) && (cl == 0)) by rw [hA.out, List.drop_length, HZ.out]; rfl)
      by_cases hcp : cp = 0
      · subst hcp
        go_wp2_with fail
        go_ret
        exact ⟨by rw [hA.out]; rfl, AL.out⟩
      · have b1 : (cp == 0) = false := beq_eq_false_iff_ne.2 hcp
        clear hcp
        go_wp2_with fail
        go_ret
        exact ⟨by rw [hA.out, b1]; rfl, AL.out⟩

end Go.Proofs.YtgdbaceehpcgbaaDoor

namespace Go.Proofs.YtgdbaceehpcgbaaDoor
open Go.RowKit

/-! strings that are not too long -/
def SzC (c : Cs) : Prop := ∀ s ∈ c.1, s.size ≤ 256
theorem cname_short {s : ByteArray} (h : propB s = true) : s.size ≤ 256 := by
  unfold propB at h
  have hl : s.data.toList.length = s.size := Array.length_toList
  cases hs : s.data.toList with
  | nil => rw [hs] at hl; simp at hl; omega
  | cons b r =>
    rw [hs] at h hl
    simp [nameB] at h
    simp at hl
    omega
theorem sz_of {L : List ByteArray} {s : ByteArray} (h : ∀ x ∈ L, x.size ≤ 256) (hs : s.size ≤ 256) : ∀ x ∈ ofT L s, x.size ≤ 256 := by
  unfold ofT
  split
  · exact h
  · intro x hx
    rcases List.mem_append.1 hx with hx | hx
    · exact h x hx
    · rw [List.mem_singleton.1 hx]; exact hs
theorem sz_end {k o n : Int} {s : ByteArray} {m : Nat} {c : Cs} (h : SzC c) (hs : strD k s = true) : SzC (endC k o n s m c).2 := by
  have key : ∀ (p : Prop) [Decidable p] (a b : List In × Cs), (p → SzC a.2) → SzC b.2 → SzC (if p then a else b).2 := by
    intro p _ a b h1 h2
    split
    · exact h1 (by assumption)
    · exact h2
  have hp : (k = 13 ∨ k = 16 ∨ k = 23 ∨ k = 25) → s.size ≤ 256 := fun hk => by
    unfold strD at hs
    rw [if_pos hk] at hs
    exact cname_short hs
  have h4 : k = 4 → s.size ≤ 256 := fun hk => by
    unfold strD at hs
    rw [if_neg (by omega), if_pos hk] at hs
    exact of_decide_eq_true hs
  unfold endC
  repeat (refine key _ _ _ (by intro hk; first | exact h | exact sz_of h (hp (by omega)) | exact sz_of h (h4 hk)) ?_)
  exact h
theorem sz_hook {k : Int} {s : ByteArray} {ns : List ByteArray} {i : Nat} {c : Cs} (h : SzC c) (hs : strD k s = true) (hn : k = 7 → ns.all propB = true ∧ ns ≠ []) : SzC (hookC k s ns i c).2 := by
  unfold hookC
  split
  · rename_i hk
    obtain ⟨h1, h2⟩ := hn hk
    cases ns with
    | nil => exact absurd rfl h2
    | cons x r =>
      rw [List.all_cons, Bool.and_eq_true] at h1
      exact sz_of h (cname_short h1.1)
  · split
    · rename_i hk
      unfold strD at hs
      rw [if_pos (by omega)] at hs
      exact sz_of h (cname_short hs)
    · exact h
mutual
theorem sz_cN {bb : Bds} : ∀ (t : Nd) (a : Nat), rightD bb t a = true → ∀ c : Cs, SzC c → SzC (cN t c).2
  | .mk k o n s ns ks p, a, hr, c, hc => by
    rw [rightD, Bool.and_eq_true, Bool.and_eq_true, Bool.and_eq_true] at hr
    obtain ⟨ha, hm, hf, hk⟩ := hr
    unfold fldD at hf
    rw [Bool.and_eq_true, Bool.and_eq_true, Bool.and_eq_true] at hf
    rw [cN]
    refine sz_end (sz_cK k s ks ns 0 hk hf.2.2.1 (fun h7 => ?_) c hc) hf.2.2.1
    subst h7
    have hn := hf.2.2.2
    unfold nsD at hn
    rw [if_pos rfl, Bool.and_eq_true] at hn
    refine ⟨hn.2, ?_⟩
    simp [manyD] at hm
    omega
theorem sz_cK {bb : Bds} (k : Int) (s : ByteArray) : ∀ (ks : List Nd) (ns : List ByteArray) (i : Nat), rightDL bb ks k i = true → strD k s = true → (k = 7 → ns.all propB = true ∧ ks.length ≤ ns.length) → ∀ c : Cs, SzC c → SzC (cK k s ns ks i c).2
  | [], ns, i, _, _, _, c, hc => by rw [cK]; exact hc
  | x :: r, ns, i, hr, hs, hn, c, hc => by
    rw [rightDL, Bool.and_eq_true] at hr
    rw [cK]
    refine sz_cK k s r ns.tail (i + 1) hr.2 hs (fun h => ?_) _ (sz_hook (sz_cN x _ hr.1 c hc) hs (fun h => ?_))
    · obtain ⟨h1, h2⟩ := hn h
      cases ns with
      | nil => simp at h2
      | cons y l =>
        rw [List.all_cons, Bool.and_eq_true] at h1
        exact ⟨h1.2, by simpa using h2⟩
    · obtain ⟨h1, h2⟩ := hn h
      refine ⟨h1, ?_⟩
      rintro rfl
      simp at h2
end
theorem body_list {bb : Bds} : ∀ (l : List Nd) (i : Nat), (l.all fun x => rightD bb x 2) = true → rightDL bb l 29 i = true
  | [], i, _ => by rw [rightDL]
  | x :: r, i, h => by
    rw [List.all_cons, Bool.and_eq_true] at h
    rw [rightDL, show wantD 29 i = 2 by simp [wantD], h.1, body_list r (i + 1) h.2]
    rfl

/-! depths -/
theorem deep_ge : ∀ (is : List In) (d m : Int) (j : Nat), m ≤ deepG is d m ∧ (1 ≤ j → j ≤ is.length → d + linC is j ≤ deepG is d m)
  | [], d, m, j => ⟨Int.le_refl _, fun h1 h2 => by simp at h2; omega⟩
  | x :: r, d, m, j => by
    rw [deepG]
    have h := deep_ge r (d - (effI x.1 x.2.1).1 + (effI x.1 x.2.1).2) (max m (d - (effI x.1 x.2.1).1 + (effI x.1 x.2.1).2)) (j - 1)
    refine ⟨by omega, fun h1 h2 => ?_⟩
    obtain ⟨j', rfl⟩ : ∃ j', j = j' + 1 := ⟨j - 1, by omega⟩
    rw [linC]
    rcases Nat.eq_zero_or_pos j' with h0 | h0
    · subst h0; rw [lin_zero]; omega
    · have := h.2 (by omega) (by simp at h2; omega)
      rw [Nat.add_sub_cancel] at this
      omega
theorem deep_lin (is : List In) {j : Nat} (h : j ≤ is.length) : linC is j ≤ deepC is := by
  have g := deep_ge is 0 0 j
  rcases Nat.eq_zero_or_pos j with h0 | h0
  · subst h0; rw [lin_zero]; exact g.1
  · have := g.2 h0 h
    unfold deepC
    omega
theorem deep_zero (is : List In) : 0 ≤ deepC is := (deep_ge is 0 0 0).1
/-- where all flow by the count, there are depths -/
theorem flow_of (p l s : Int) (is : List In) (h0 : 0 < is.length) (hG : ∀ (k : Nat) x, is[k]? = some x → (effI x.1 x.2.1).1 ≤ linC is k ∧ ∀ t e, (t, e) ∈ nxI x.1 x.2.1 k (linC is k) → ∃ j : Nat, t = j ∧ j < is.length ∧ e = linC is j) : ∃ ds, Flow ⟨p, l, s, deepC is, is⟩ ds := by
  classical
  refine ⟨(List.range is.length).map fun (k : Nat) => if ∃ n, rch is n (k : Int) (linC is k) then linC is k else -1, by simp, ?_, fun k d hk => ?_⟩
  · rw [List.getElem?_map, List.getElem?_range h0]
    show some (if ∃ n, rch is n ((0 : Nat) : Int) (linC is 0) then linC is 0 else -1) = some 0
    rw [if_pos ⟨0, rfl, lin_zero is⟩, lin_zero]
  · rw [List.getElem?_map] at hk
    obtain ⟨k', hk1, hk2⟩ := Option.map_eq_some_iff.1 hk
    have hlt : k < is.length := by have := (List.getElem?_eq_some_iff.1 hk1).1; simpa using this
    rw [List.getElem?_range hlt] at hk1
    cases hk1
    split at hk2
    · rename_i hr
      subst hk2
      obtain ⟨n, hr⟩ := hr
      have hx : is[k]? = some is[k] := List.getElem?_eq_getElem hlt
      obtain ⟨g1, g2⟩ := hG k _ hx
      have hb := effI_bound (is[k]).1 (is[k]).2.1
      refine .inr ⟨by omega, ⟨?_, fun t e hm => ?_⟩, n, hr⟩
      · show popL is k ≤ _
        unfold popL; rw [hx]; exact g1
      · have hm' := hm
        unfold nxL at hm'
        rw [show (⟨p, l, s, deepC is, is⟩ : Cd).ins[k]? = some is[k] from hx] at hm'
        obtain ⟨j, rfl, hj, rfl⟩ := g2 t e hm'
        refine ⟨deep_lin is (Nat.le_of_lt hj), j, rfl, ?_⟩
        rw [List.getElem?_map, List.getElem?_range hj]
        show some (if ∃ n, rch is n (j : Int) (linC is j) then linC is j else -1) = _
        rw [if_pos ⟨n + 1, rch_next hr hm⟩]
    · exact .inl hk2.symm
/-- a function's instructions, place by place -/
theorem body_flow {B : List In} (h : GE NoX 0 B 0) {k : Nat} {x : In} (hx : (B ++ [((2 : Int), (0 : Int), (0 : Int)), (32, 0, 0)])[k]? = some x) :
    (effI x.1 x.2.1).1 ≤ linC (B ++ [(2, 0, 0), (32, 0, 0)]) k ∧ ∀ t e, (t, e) ∈ nxI x.1 x.2.1 k (linC (B ++ [(2, 0, 0), (32, 0, 0)]) k) → ∃ j : Nat, t = j ∧ j < (B ++ [((2 : Int), (0 : Int), (0 : Int)), (32, 0, 0)]).length ∧ e = linC (B ++ [(2, 0, 0), (32, 0, 0)]) j ∧ (goB x.1 = true → j ≤ k → TickAt B j) := by
  rcases Nat.lt_or_ge k B.length with hk | hk
  · rw [List.getElem?_append_left hk] at hx
    rw [lin_app _ _ _ (Nat.le_of_lt hk)]
    obtain ⟨g1, g2⟩ := h.2 k x hx
    refine ⟨by omega, fun t e hm => ?_⟩
    rcases g2 t e hm with ⟨j, hj, hj2, he, ht⟩ | hf
    · exact ⟨j, hj, by simp; omega, by rw [lin_app _ _ _ hj2]; exact he, fun _ => ht⟩
    · exact hf.elim
  · obtain ⟨i, rfl⟩ : ∃ i, k = B.length + i := ⟨k - B.length, by omega⟩
    rw [List.getElem?_append_right (by omega), Nat.add_sub_cancel_left] at hx
    rw [lin_past, h.1]
    match i, hx with
    | 0, hx =>
      simp at hx; subst hx
      refine ⟨by rw [lin_zero]; decide, fun t e hm => ⟨B.length + 1, ?_, by simp, ?_, fun hg => absurd hg (by decide)⟩⟩
      · simp [nxI, effI, effP, goB] at hm; rw [hm.1]; simp
      · rw [lin_past, h.1]
        simp [nxI, effI, effP, goB, lin_zero] at hm
        rw [hm.2]; rfl
    | 1, hx =>
      simp at hx; subst hx
      refine ⟨by simp [linC, effI, effP], fun t e hm => ?_⟩
      simp [nxI] at hm
    | i + 2, hx => simp at hx

end Go.Proofs.YtgdbaceehpcgbaaDoor
