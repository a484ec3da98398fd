/- Which of a unit's nodes are right, as the document asks it. -/
import Derived.Test.YtmihckhflbepjaaDoorTk
import Derived.Test.YtmihckhflbepjaaDoorUnFld0
import Derived.Test.YtmihckhflbepjaaDoorJoint2
import Derived.Deep.RegionHeld3
namespace Go.Proofs.YtmihckhflbepjaaDoor
set_option linter.unusedSimpArgs false
set_option linter.unusedVariables false
set_option maxRecDepth 100000
open Go.RowKit

theorem rightDL_not {b : Bds} : ∀ (ks : List Nd) (k : Int) (i j : Nat) (hj : j < ks.length), rightD b ks[j] (wantD k (i + j)) = false → rightDL b ks k i = false
  | [], _, _, _, hj, _ => by cases hj
  | x :: r, k, i, 0, _, h => by rw [rightDL]; simp only [List.getElem_cons_zero, Nat.add_zero] at h; rw [h]; rfl
  | x :: r, k, i, j + 1, hj, h => by
    rw [rightDL, rightDL_not r k (i + 1) j (by simpa using hj) (by simpa [Nat.add_assoc, Nat.add_comm 1 j] using h), Bool.and_false]
theorem rightDL_yes {b : Bds} : ∀ (ks : List Nd) (k : Int) (i : Nat), (∀ (j : Nat) (hj : j < ks.length), rightD b ks[j] (wantD k (i + j)) = true) → rightDL b ks k i = true
  | [], _, _, _ => by rw [rightDL]
  | x :: r, k, i, h => by
    rw [rightDL, rightDL_yes r k (i + 1) (fun j hj => by have := h (j + 1) (by simpa using hj); simpa [Nat.add_assoc, Nat.add_comm 1 j] using this)]
    have := h 0 (by simp)
    simpa using this
theorem want_d3 (k : Int) (i : Nat) : 1 ≤ wantD k i ∧ wantD k i ≤ 3 := by
  unfold wantD
  split
  · omega
  · split <;> omega
/-- what is known of the document's fields -/
def FldsAt (G L : Int) (fa : Option Addr) (fn fc : Nat) : Prop := ∀ (k o n : Int) (s : ByteArray) (ns : List ByteArray) (a1 : Option Addr) (q1 : Nat) (a2 : Option Addr) (c2 q2 : Nat) (p : Int) (B : Nat) (w : World), B ≤ w.heap.size → Hid (StrsIn B (.slice a1 ns.length q1) ns w) → ns.length ≤ 1000000 →
    Calls Tryd.prog 49 #[.agg #[.int .i64 k, .int .i64 o, .int .i64 n, .string s, .slice a1 ns.length q1, .slice a2 c2 q2, .int .i64 p], .agg #[.int .i64 G, .slice fa fn fc], .int .i64 L] w fun e w' =>
      e = .returned (.bool (fldD (L, G, (fn : Int)) k o n s ns)) ∧ Below w.heap.size w w'
/-- what is known of the document's Right at a node -/
def URightAt (G L : Int) (fa : Option Addr) (fn fc : Nat) (x : Nd) : Prop := ∀ (a : Nat) (B : Nat) (w : World) (nv kv : Value), 1 ≤ a → a ≤ 3 → B ≤ w.heap.size → Hid (NdIn B w x nv kv) → smallN x = true → countN x ≤ 1000000 →
    Calls Tryd.prog 31 #[.agg #[.int .i64 x.kind, .int .i64 x.op, .int .i64 x.num, .string x.str, nv, kv, .int .i64 x.pl], .int .i64 a, .agg #[.int .i64 G, .slice fa fn fc], .int .i64 L] w fun e w' =>
      e = .returned (.bool (rightD (L, G, (fn : Int)) x a)) ∧ Below w.heap.size w w'
set_option maxHeartbeats 12800000 in
theorem uright_mk (G L : Int) (fa : Option Addr) (fn fc : Nat) (FU : FldsAt G L fa fn fc) (k o n : Int) (s : ByteArray) (ns : List ByteArray) (ks : List Nd) (p : Int) (ih : ∀ x ∈ ks, URightAt G L fa fn fc x) : URightAt G L fa fn fc (.mk k o n s ns ks p) := by
  intro a B w nv kv ha1 ha3 hB h1 hsm hc
  obtain ⟨_, hns, _, hsk⟩ := small_mk hsm
  simp only [countN] at hc
  obtain ⟨hs1, hk1⟩ := ndIn_mk.1 h1.out
  obtain ⟨a1, q1, rfl, _⟩ := strsIn_cases hs1
  obtain ⟨a2, q2, rfl, hkk1⟩ := kidsIn_cases hk1
  have hlen := length_count ks
  simp only [Nd.kind, Nd.op, Nd.num, Nd.str, Nd.pl]
  have T := two_blks w 25 30 #[.int .i64 k, .int .i64 o, .int .i64 n, .string s, .slice a1 ns.length q1, .slice a2 ks.length q2, .int .i64 p] #[.int .i64 G, .slice fa fn fc]
  have X1 := hid T.1
  have X2 := hid T.2.1
  have HT := hid T.2.2
  have hsz : ((w.alloc (.cells #[.int .i64 k, .int .i64 o, .int .i64 n, .string s, .slice a1 ns.length q1, .slice a2 ks.length q2, .int .i64 p] 25)).alloc (.cells #[.int .i64 G, .slice fa fn fc] 30)).heap.size = w.heap.size + 2 := by simp
  have S1 := hid (strsIn_on hs1 (T.2.2.mono hB))
  have K1 := hid hkk1
  have IH := hid ih
  have SK := hid hsk
  have HR := hid (show rightD (L, G, (fn : Int)) (.mk k o n s ns ks p) a = ((isD k == a) && (manyD k o ns.length ks.length && (fldD (L, G, (fn : Int)) k o n s ns && rightDL (L, G, (fn : Int)) ks k 0))) by rw [rightD])
  rw [many_is] at HR
  generalize rightD (L, G, (fn : Int)) (.mk k o n s ns ks p) a = F at *
  have RN := hid (fun (j : Nat) (hj : j < ks.length) h => rightDL_not (b := (L, G, (fn : Int))) ks k 0 j hj h)
  have RY := hid (fun h => rightDL_yes (b := (L, G, (fn : Int))) ks k 0 h)
  generalize rightDL (L, G, (fn : Int)) ks k 0 = RL at *
  clear ih hs1 hk1 h1 T hsm hkk1 hsk
  have FC := hid (fun W hW hS => FU k o n s ns a1 q1 a2 ks.length q2 p B W hW hS (by omega))
  have MC := hid (manyu_calls k o n s a1 ns.length q1 a2 ks.length q2 p)
  generalize fldD (L, G, (fn : Int)) k o n s ns = fb at *
  generalize manyU k o ns.length = MU at *
  obtain ⟨lo, hi⟩ := MU
  simp only at HR MC
  go_enter Tryd.func31, Tryd.ntmps31
  go_upto_region 2 with fail
  generalize hW : (w.alloc (.cells #[.int .i64 k, .int .i64 o, .int .i64 n, .string s, .slice a1 ns.length q1, .slice a2 ks.length q2, .int .i64 p] 25)).alloc (.cells #[.int .i64 G, .slice fa fn fc] 30) = w2 at *
  clear hW
  have CEL := hid (fun (W : World) (q : Below w2.heap.size w2 W) => (show Box w.heap.size k o n s (.slice a1 ns.length q1) (.slice a2 ks.length q2) p W ∧ W.cell? ⟨w.heap.size + 1, 0, none⟩ = some (.int .i64 G) ∧ W.cell? ⟨w.heap.size + 1, 1, none⟩ = some (.slice fa fn fc) from
    have h := blk_on X1.out q
    have g := blk_on X2.out q
    ⟨h, (blk_cell g 0).trans rfl, (blk_cell g 1).trans rfl⟩))
  have LOW := hid (fun (W : World) (q : Below w2.heap.size w2 W) => HT.out.trans (q.mono (by omega)))
  have ISD := hid (show isD k = if k = 29 then 3 else if k ≤ 20 then 1 else 2 from rfl)
  obtain ⟨sv, hsv⟩ : ∃ sv : Int, sv = (isD k : Int) := ⟨_, rfl⟩
  have SV := hid hsv
  clear hsv
  have c0 := (box_cells (CEL.out w2 (Below.refl _ _)).1).1
  obtain ⟨s1, hs1⟩ : ∃ s1 : Int, s1 = if k ≤ 20 then 1 else 2 := ⟨_, rfl⟩
  have S1V := hid hs1
  clear hs1
  go_upto_if 16 with fail
  go_cut [9] (fun v wx => v = .int .i64 s1 ∧ wx = w2)
  case first =>
    clear HR RN RY FC MC IH SK
    by_cases h20 : k ≤ 20
    · have e := S1V.out.trans (if_pos h20)
      subst e
      as_aux_lemma =>
        go_wp2_with fail
        go_meet
        exact ⟨rfl, rfl⟩
    · have e := S1V.out.trans (if_neg h20)
      subst e
      as_aux_lemma =>
        go_wp2_with fail
        go_meet
        exact ⟨rfl, rfl⟩
  case rest =>
  obtain ⟨rfl, rfl⟩ := hcut
  rename World => w2
  go_upto_if 19 with fail
  go_cut [9] (fun v wx => v = .int .i64 sv ∧ wx = w2)
  case first =>
    clear HR RN RY FC MC IH SK
    by_cases h29 : k = 29
    · subst h29
      have e : sv = 3 := SV.out
      subst e
      as_aux_lemma =>
        go_wp2_with fail
        go_meet
        exact ⟨rfl, rfl⟩
    · have b29 : (k == 29) = false := beq_eq_false_iff_ne.2 h29
      have e : s1 = sv := by
        rw [SV.out, ISD.out, S1V.out, if_neg h29]
        split <;> rfl
      subst e
      clear h29
      as_aux_lemma =>
        go_wp2_with fail
        go_meet
        exact ⟨rfl, rfl⟩
  case rest =>
  obtain ⟨rfl, rfl⟩ := hcut
  rename World => w2
  clear S1V ISD c0
  obtain ⟨c0, c1, c2, c3, c4, c5, c6⟩ := box_cells (CEL.out w2 (Below.refl _ _)).1
  go_wp2_with fail
  refine (MC.out _).mono ?_
  rintro e w3 ⟨rfl, b3⟩
  have L3 := hid b3
  clear b3 c0 c1 c2 c3 c4 c5 c6 MC
  obtain ⟨rb, hrb⟩ : ∃ b, b = ((isD k == a) && ((decide (0 ≤ lo) && (decide (lo ≤ (ks.length : Int)) && decide ((ks.length : Int) ≤ hi))) && fb)) := ⟨_, rfl⟩
  have RB := hid hrb
  replace HR := hid (show F = (rb && RL) by rw [HR.out, hrb]; simp only [Bool.and_assoc])
  clear hrb
  go_upto_region 7 with fail
  go_cut [52] (fun v wx => v = .bool (!rb) ∧ Hid (Below w2.heap.size w2 wx))
  case first =>
    clear HR RN RY IH SK
    obtain ⟨c0, c1, c2, c3, c4, c5, c6⟩ := box_cells (CEL.out w3 L3.out).1
    obtain ⟨_, u0, u1⟩ := CEL.out w3 L3.out
    by_cases ha : isD k = a
    rotate_left 1
    · have di : (sv != (a : Int)) = true := by rw [bne_iff_ne, SV.out]; omega
      have e : rb = false := by rw [RB.out, beq_eq_false_iff_ne.2 ha]; rfl
      subst e
      as_aux_lemma =>
        go_wp2_with fail
        go_meet
        exact ⟨rfl, L3⟩
    have e : sv = (a : Int) := by rw [SV.out, ha]
    subst e
    replace RB := hid (show rb = ((decide (0 ≤ lo) && (decide (lo ≤ (ks.length : Int)) && decide ((ks.length : Int) ≤ hi))) && fb) by rw [RB.out, beq_iff_eq.2 ha, Bool.true_and])
    clear SV ha
    by_cases h0 : lo < 0
    · have e : rb = false := by rw [RB.out, decide_eq_false (show ¬ 0 ≤ lo by omega)]; rfl
      subst e
      as_aux_lemma =>
        go_wp2_with fail
        go_meet
        exact ⟨rfl, L3⟩
    by_cases hl : (ks.length : Int) < lo
    · have e : rb = false := by rw [RB.out, decide_eq_false (show ¬ lo ≤ (ks.length : Int) by omega)]; simp
      subst e
      as_aux_lemma =>
        go_wp2_with fail
        go_meet
        exact ⟨rfl, L3⟩
    by_cases hm : hi < (ks.length : Int)
    · have e : rb = false := by rw [RB.out, decide_eq_false (show ¬ (ks.length : Int) ≤ hi by omega)]; simp
      subst e
      as_aux_lemma =>
        go_wp2_with fail
        go_meet
        exact ⟨rfl, L3⟩
    have e : rb = fb := by rw [RB.out, decide_eq_true (show 0 ≤ lo by omega), decide_eq_true (show lo ≤ (ks.length : Int) by omega), decide_eq_true (show (ks.length : Int) ≤ hi by omega)]; rfl
    subst e
    have SS := hid (strsIn_on S1.out (L3.out.mono (by omega)))
    have hB3 : B ≤ w3.heap.size := by have := L3.out.size; omega
    as_aux_lemma =>
      go_wp2_with fail
      refine (FC.out _ hB3 SS).mono ?_
      rintro e w4 ⟨rfl, b4⟩
      have L4 := hid (below_in L3.out (Nat.le_refl _) b4)
      clear b4
      go_wp2_with fail
      go_meet
      exact ⟨rfl, L4⟩
  case rest =>
  obtain ⟨rfl, L4⟩ := hcut
  rename World => w4
  clear L3 RB FC SV
  cases rb with
  | false =>
    have H0 := hid (show F = false by rw [HR.out]; rfl)
    have AX := hid (LOW.out _ L4.out)
    clear HR RN RY IH SK
    as_aux_lemma =>
      go_wp2_with fail
      go_ret
      exact ⟨by rw [H0.out]; rfl, AX.out⟩
  | true =>
  replace HR := hid (show F = RL by rw [HR.out]; rfl)
  go_wp2_with fail
  go_loopw [12] (fun iV wr => ∃ j : Nat, j ≤ ks.length ∧ iV = .int .i64 j ∧ Hid (∀ (q : Nat) (hq : q < ks.length), q < j → rightD (L, G, (fn : Int)) ks[q] (wantD k (0 + q)) = true) ∧ Hid (Below w2.heap.size w2 wr)) (fun iV _ => ks.length - (intOf iV).toNat)
  case atStart => exact ⟨0, by omega, rfl, hid (fun q _ h => absurd h (Nat.not_lt_zero _)), L4⟩
  case round =>
    clear L4
    obtain ⟨j, hj, rfl, hA, hL4⟩ := hrel
    rename World => wz
    obtain ⟨c0, c1, c2, c3, c4, c5, c6⟩ := box_cells (CEL.out wz hL4.out).1
    obtain ⟨_, u0, u1⟩ := CEL.out wz hL4.out
    have AX := hid (LOW.out _ hL4.out)
    by_cases hjl : j < ks.length
    rotate_left 1
    · have H0 := hid (show F = true by rw [HR.out]; exact RY.out (fun q h1 => hA.out q h1 (by omega)))
      have hje : j = ks.length := by omega
      clear hA HR RN RY IH SK
      subst hje
      as_aux_lemma =>
        go_wp2_with fail
        go_ret
        exact ⟨by rw [H0.out]; rfl, AX.out⟩
    have hjl' : (j : Int) < (ks.length : Int) := by omega
    obtain ⟨b, off, hab, hbB, hat⟩ := K1.out.resolve_left (fun h => by rw [h] at hjl; cases hjl)
    subst hab
    obtain ⟨nv1, kv1, hnode, hin⟩ := ndsAt_get hat j hjl
    have hb' := AX.out.mono hB
    have C1 := nodeAt_on hnode hbB hb'
    have N1 := hid (ndIn_on hb' _ _ _ hin)
    have IHx := hid (IH.out ks[j] (List.getElem_mem hjl))
    have HS := hid (SK.out ks[j] (List.getElem_mem hjl))
    have hcm := count_mem (List.getElem_mem hjl)
    have HN := hid (fun h => RN.out j hjl h)
    have HQ := hid (fun (he : rightD (L, G, (fn : Int)) ks[j] (wantD k (0 + j)) = true) => show ∀ (q : Nat) (hq : q < ks.length), q < j + 1 → rightD (L, G, (fn : Int)) ks[q] (wantD k (0 + q)) = true from fun q h1 h3 => by
      rcases Nat.lt_or_ge q j with h4 | h4
      · exact hA.out q h1 h4
      · obtain rfl : q = j := by omega
        exact he)
    have W3 := hid (want_d3 k (0 + j))
    have WD := hid (show wantD k (0 + j) = if 0 < j ∧ (k = 28 ∨ k = 30) then 3 else if k = 29 then 2 else 1 by rw [Nat.zero_add]; rfl)
    generalize wantD k (0 + j) = wd at *
    generalize ks[j] = x at *
    obtain ⟨b1, r1, b2, r2, rfl, rfl⟩ := ndIn_shape hin
    have hsz4 := AX.out.size
    have hbw : b < wz.heap.size := by omega
    have hBz : B ≤ wz.heap.size := by omega
    clear hin hnode hat hb' IH SK RN RY K1 hA
    obtain ⟨e0, e1, e2, e3, e4, e5, e6⟩ := C1
    obtain ⟨w1', hw1'⟩ : ∃ v : Int, v = if k = 29 then 2 else 1 := ⟨_, rfl⟩
    have WV := hid hw1'
    clear hw1'
    go_upto_if 62 with fail
    go_cut [13] (fun v wx => v = .int .i64 w1' ∧ wx = wz)
    case first =>
      clear HN HQ IHx HR
      by_cases h29 : k = 29
      · subst h29
        have e : w1' = 2 := WV.out
        subst e
        as_aux_lemma =>
          go_wp2_with fail
          go_meet
          exact ⟨rfl, rfl⟩
      · have b29 : (k == 29) = false := beq_eq_false_iff_ne.2 h29
        have e : w1' = 1 := WV.out.trans (if_neg h29)
        subst e
        clear h29
        as_aux_lemma =>
          go_wp2_with fail
          go_meet
          exact ⟨rfl, rfl⟩
    case rest =>
    obtain ⟨rfl, rfl⟩ := hcut
    rename World => wz
    obtain ⟨fl, hfl⟩ : ∃ r : Bool, (r = true ↔ (0 < j ∧ (k = 28 ∨ k = 30))) := by
      by_cases h : 0 < j ∧ (k = 28 ∨ k = 30)
      · exact ⟨true, by simp [h]⟩
      · exact ⟨false, by simp [h]⟩
    have FL := hid hfl
    clear hfl
    go_upto_region 15 with fail
    go_cut [74] (fun v wx => v = .bool fl ∧ wx = wz)
    case first =>
      clear HN HQ IHx HR
      by_cases hj0 : 0 < j
      · have d0 : decide ((0 : Int) < (j : Int)) = true := decide_eq_true (by omega)
        by_cases h28 : k = 28
        · have e : fl = true := FL.out.2 ⟨hj0, .inl h28⟩
          subst e h28
          as_aux_lemma =>
            go_wp2_with fail
            go_meet
            exact ⟨rfl, rfl⟩
        by_cases h30 : k = 30
        · have e : fl = true := FL.out.2 ⟨hj0, .inr h30⟩
          subst e h30
          as_aux_lemma =>
            go_wp2_with fail
            go_meet
            exact ⟨rfl, rfl⟩
        have b28 : (k == 28) = false := beq_eq_false_iff_ne.2 h28
        have b30 : (k == 30) = false := beq_eq_false_iff_ne.2 h30
        have e : fl = false := Bool.eq_false_iff.2 fun h => by
          rcases (FL.out.1 h).2 with h | h
          · exact h28 h
          · exact h30 h
        subst e
        clear h28 h30
        as_aux_lemma =>
          go_wp2_with fail
          go_meet
          exact ⟨rfl, rfl⟩
      · have hj00 : j = 0 := by omega
        have e : fl = false := Bool.eq_false_iff.2 fun h => hj0 (FL.out.1 h).1
        subst e hj00
        clear hj0
        as_aux_lemma =>
          go_wp2_with fail
          go_meet
          exact ⟨rfl, rfl⟩
    case rest =>
    obtain ⟨rfl, rfl⟩ := hcut
    rename World => wz
    have WDV := hid (show (wd : Int) = if fl = true then 3 else w1' by
      rw [WD.out, WV.out]
      by_cases h : 0 < j ∧ (k = 28 ∨ k = 30)
      · rw [if_pos h, if_pos (FL.out.2 h)]; rfl
      · rw [if_neg h, if_neg (fun e => h (FL.out.1 e))]
        split <;> rfl)
    clear FL WV WD
    go_upto_if 74 with fail
    go_cut [13] (fun v wx => v = .int .i64 (wd : Int) ∧ wx = wz)
    case first =>
      clear HN HQ IHx HR
      cases fl with
      | true =>
        have e : wd = 3 := by have := WDV.out; simp at this; omega
        subst e
        as_aux_lemma =>
          go_wp2_with fail
          go_meet
          exact ⟨rfl, rfl⟩
      | false =>
        have e : w1' = (wd : Int) := by have := WDV.out; simp at this; omega
        subst e
        as_aux_lemma =>
          go_wp2_with fail
          go_meet
          exact ⟨rfl, rfl⟩
    case rest =>
    obtain ⟨rfl, rfl⟩ := hcut
    rename World => wz
    clear WDV
    have RC := hid (fun W hW hN => IHx.out wd B W (.slice b1 x.names.length r1) (.slice b2 x.kids.length r2) W3.out.1 W3.out.2 hW hN HS.out (by omega))
    have NON := hid (fun (W : World) (q : Below wz.heap.size wz W) => hid (ndIn_on (q.mono hBz) _ _ _ N1.out))
    have CN := hid (fun (W : World) (q : Below wz.heap.size wz W) => CEL.out W (hL4.out.trans (q.mono hL4.out.size)))
    generalize rightD (L, G, (fn : Int)) x wd = sb at *
    clear IHx
    go_upto_region 17 with fail
    refine wp_region_held_drew (S := fun aZ => aZ.cell? ⟨w.heap.size, 5, none⟩ = some (.slice (some ⟨b, off, none⟩) ks.length q2) ∧ aZ.cell? ⟨w.heap.size + 1, 0, none⟩ = some (.int .i64 G) ∧ aZ.cell? ⟨w.heap.size + 1, 1, none⟩ = some (.slice fa fn fc) ∧ aZ.cell? ⟨b, off + j * 7, none⟩ = some (.int .i64 x.kind) ∧ aZ.cell? ⟨b, off + j * 7 + 1, none⟩ = some (.int .i64 x.op) ∧ aZ.cell? ⟨b, off + j * 7 + 2, none⟩ = some (.int .i64 x.num) ∧ aZ.cell? ⟨b, off + j * 7 + 3, none⟩ = some (.string x.str) ∧ aZ.cell? ⟨b, off + j * 7 + 4, none⟩ = some (.slice b1 x.names.length r1) ∧ aZ.cell? ⟨b, off + j * 7 + 5, none⟩ = some (.slice b2 x.kids.length r2) ∧ aZ.cell? ⟨b, off + j * 7 + 6, none⟩ = some (.int .i64 x.pl)) (by kernel_rfl) ?_ (fun hHeld => ?_)
    · (refine ⟨?_, ?_, ?_, ?_, ?_, ?_, ?_, ?_, ?_, ?_⟩ <;> go_simp)
    refine tkk 0 ?_
    refine tkk 1 ?_
    refine tkk 2 ?_
    refine tkk 3 ?_
    refine tkk 4 ?_
    refine tkk 5 ?_
    refine tkk 6 ?_
    refine tkk 7 ?_
    refine rdy 8 (fun K hK => ?_)
    go_simp
    refine (RC.out _ (by first | exact hBz | (simp; exact hBz)) (by first | exact N1 | exact NON.out _ (Below.refl _ _).drew)).mono ?_
    rintro e w6 ⟨rfl, b6⟩
    have L6 := hid (below_in (show Below w2.heap.size w2 _ by first | exact hL4.out | exact hL4.out.drew) (Nat.le_refl _) b6)
    have Q6 := hid (show w6.cell? ⟨w.heap.size, 5, none⟩ = some (.slice (some ⟨b, off, none⟩) ks.length q2) ∧ w6.cell? ⟨w.heap.size + 1, 0, none⟩ = some (.int .i64 G) ∧ w6.cell? ⟨w.heap.size + 1, 1, none⟩ = some (.slice fa fn fc) ∧ w6.cell? ⟨b, off + j * 7, none⟩ = some (.int .i64 x.kind) ∧ w6.cell? ⟨b, off + j * 7 + 1, none⟩ = some (.int .i64 x.op) ∧ w6.cell? ⟨b, off + j * 7 + 2, none⟩ = some (.int .i64 x.num) ∧ w6.cell? ⟨b, off + j * 7 + 3, none⟩ = some (.string x.str) ∧ w6.cell? ⟨b, off + j * 7 + 4, none⟩ = some (.slice b1 x.names.length r1) ∧ w6.cell? ⟨b, off + j * 7 + 5, none⟩ = some (.slice b2 x.kids.length r2) ∧ w6.cell? ⟨b, off + j * 7 + 6, none⟩ = some (.int .i64 x.pl) from by
      have b7 : Below wz.heap.size wz w6 := below_in (show Below wz.heap.size wz _ by first | exact Below.refl _ _ | exact (Below.refl _ _).drew) (Nat.le_refl _) b6
      exact ⟨(box_cells (CN.out w6 b7).1).2.2.2.2.2.1, (CN.out w6 b7).2.1, (CN.out w6 b7).2.2, cell_keep b7 hbw e0, cell_keep b7 hbw e1, cell_keep b7 hbw e2, cell_keep b7 hbw e3, cell_keep b7 hbw e4, cell_keep b7 hbw e5, cell_keep b7 hbw e6⟩)
    clear b6
    go_simp
    refine hK.out _ _ Q6.out (fun _ => ?_)
    clear hK K
    try simp only [Act.put, List.setIfInBounds_toArray, List.set_cons_zero, List.set_cons_succ, List.getElem_toArray, List.getElem_cons_succ, List.getElem_cons_zero]
    cases sb with
    | false =>
      have H0 := hid (show F = false by rw [HR.out]; exact HN.out rfl)
      have AY := hid (LOW.out _ L6.out)
      clear HN HQ
      refine tkk 9 ?_
      refine wpAnyH_done (by kernel_rfl) ?_ _
      go_wp2_with fail
      go_ret
      exact ⟨by rw [H0.out]; rfl, by first | exact AY.out | exact AY.out.drew⟩
    | true =>
      have H := hid (HQ.out rfl)
      clear HN HQ
      refine tkk 9 ?_
      refine wpAnyH_done (by kernel_rfl) ?_ _
      go_wp2_with fail
      go_roundw
      case rel =>
        (repeat apply Exists.intro)
        refine ⟨?r1, rfl⟩
        exact ⟨j + 1, by omega, by go_num, H, hid (by first | exact L6.out | exact L6.out.drew)⟩
      case measure => simp [intOf]; omega
theorem uright_calls {G L : Int} {fa : Option Addr} {fn fc : Nat} (FU : FldsAt G L fa fn fc) (x : Nd) : URightAt G L fa fn fc x :=
  Nd.ind (fun k o n s ns ks p ih => uright_mk G L fa fn fc FU k o n s ns ks p ih) x

end Go.Proofs.YtmihckhflbepjaaDoor
