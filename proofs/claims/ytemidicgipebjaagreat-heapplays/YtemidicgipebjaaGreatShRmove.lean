/- The document's Move and Parent. -/
import Derived.Test.YtemidicgipebjaaGreatJoint2
import Derived.Test.YtemidicgipebjaaGreatShRadd
namespace Go.Proofs.YtemidicgipebjaaGreat
set_option linter.unusedSimpArgs false
open Go.RowKit

theorem addsP_split (M : Nat) : ∀ (a b : List Int) (q : Nat × List Sh), addsP M (a ++ b) q = addsP M b (addsP M a q)
  | [], _, _ => rfl
  | _ :: a, b, _ => addsP_split M a b _
theorem addsP_no (M : Nat) : ∀ (xs : List Int) (L : List Sh), addsP M xs (0, L) = (0, L)
  | [], _ => rfl
  | x :: r, L => by
    rw [addsP, show addN M (0, L).2 ((0, L) : Nat × List Sh).1 x = 0 from by unfold addN; rw [getS_out (.inl (by simp))], show addL M ((0, L) : Nat × List Sh).2 ((0, L) : Nat × List Sh).1 x = L from by unfold addL; rw [getS_out (.inl (by simp))]]
    exact addsP_no M r L
theorem WfS.adds {M : Nat} : ∀ (xs : List Int) (q : Nat × List Sh), WfS M q.2 → (∀ x ∈ xs, I64 x) → WfS M (addsP M xs q).2
  | [], _, h, _ => h
  | x :: r, _, h, hx => WfS.adds r _ (h.add (hx x (by simp))) (fun y hy => hx y (by simp [hy]))
theorem WfS.move {M : Nat} {L : List Sh} {id p : Int} (h : WfS M L) (hp : I64 p) : WfS M (moveP M L id p).2 := by
  unfold moveP
  split
  · rename_i s hs
    obtain ⟨i, _, hi⟩ := getS_some hs
    exact WfS.adds _ _ (h.root hp) (h.fits i s hi)
  · exact h
theorem intsAt_keepI {v : Value} {xs : List Int} {a c : World} (h : a.ownsRow 0 3 1 v xs.length (xs.map (Value.int .i64))) (k : KeepI a c) : IntsAt v xs c := by
  refine intsAt_row (B := 0) (row_keep h (fun g hg => ?_))
  obtain ⟨cur, hc⟩ := row_lt h hg
  exact (k g cur hc).trans (Eq.symm hc)
set_option maxHeartbeats 2000000 in
theorem rmove_calls {S : Nat → Prop} {r M : Nat} {L : List Sh} (w : World) (h : RfS S r M L w) (wf : WfS M L) (id p : Int) (hp : I64 p) :
    Calls Tryz.prog 75 #[.pointer (some ⟨r, 0, none⟩), .int .i64 id, .int .i64 p] w fun e w' => e = .returned (.int .i64 ((moveP M L id p).1 : Int)) ∧ RfS (Up S w) r M (moveP M L id p).2 w' ∧ Keep S w w' := by
  have HH := hid (rhas_calls w h id)
  have R := hid (show RfS (Up S w) r M L w from h.mono (fun b _ hb => .inl hb))
  have hl150 : L.length ≤ 150 := by have h1 := wf.len; have h2 := wf.most; omega
  cases hg : getS L id with
  | none =>
    rw [show moveP M L id p = (0, L) from by unfold moveP; rw [hg]]
    rw [hg] at HH
    clear h
    go_enter Tryz.func75, Tryz.ntmps75
    go_wp2_with fail
    refine HH.out.mono ?_
    rintro e1 w1 ⟨rfl, rfl⟩
    go_wp2_with fail
    go_ret
    exact ⟨rfl, R.out, Keep.refl _ _⟩
  | some s =>
    rw [hg] at HH
    rw [show moveP M L id p = addsP M s.2 (rootN M L p, rootL M L p) from by unfold moveP; rw [hg]]
    obtain ⟨i, rfl, hi⟩ := getS_some hg
    obtain ⟨g, cap, no, nc, c0, hgl, c1, c2, c3, _⟩ := h.at' hi
    have hil := lt_of_get hi
    have hfew := wf.few i s hi
    have HFi := hid (wf.fits i s hi)
    have HR := hid (rroot_calls w h wf p)
    have HWr := hid (wf.root hp)
    have C3 := hid c3.1
    clear h wf hg hi c3
    generalize hq : ((rootN M L p, rootL M L p) : Nat × List Sh) = q at *
    have hq1 : rootN M L p = q.1 := by rw [← hq]
    have hq2 : rootL M L p = q.2 := by rw [← hq]
    rw [hq1, hq2] at HR
    rw [hq2] at HWr
    clear hq hq1 hq2
    go_enter Tryz.func75, Tryz.ntmps75
    go_wp2_with fail
    refine HH.out.mono ?_
    rintro e1 w1 ⟨rfl, rfl⟩
    go_wp2_with fail
    refine HR.out.mono ?_
    rintro e2 w2 ⟨rfl, f2, k2, i2⟩
    have F2 := hid f2
    have K2 := hid k2
    have I2 := hid i2
    clear f2 k2 i2 HR
    go_wp2_with fail
    go_loopw [8, 9] (fun a b wr => ∃ k : Nat, k ≤ s.2.length ∧ b = .int .i64 k ∧ a = .int .i64 ((addsP M (s.2.take k) q).1 : Int) ∧ Hid (RfS (Up S w1) r M (addsP M (s.2.take k) q).2 wr) ∧ Hid (Keep S w1 wr) ∧ Hid (KeepI w1 wr)) (fun _ b _ => s.2.length - (intOf b).toNat)
    case atStart => exact ⟨0, Nat.zero_le _, rfl, rfl, F2, K2, I2⟩
    case round =>
      obtain ⟨k, hk, rfl, rfl, hF, hK, hI⟩ := hrel
      by_cases hgo : k < s.2.length ∧ 0 < (addsP M (s.2.take k) q).1
      · obtain ⟨hkl, hto⟩ := hgo
        obtain ⟨x, hx⟩ : ∃ x, s.2[k]? = some x := ⟨s.2[k], List.getElem?_eq_getElem hkl⟩
        obtain ⟨b, off, rfl, hbl, q0⟩ := intsAt_at (intsAt_keepI C3.out hI.out) hx
        have HT := hid (addsP_take M s.2 k x q hx)
        have HWk := hid (WfS.adds (s.2.take k) q HWr.out (fun y hy => HFi.out y (List.mem_of_mem_take hy)))
        generalize addsP M (s.2.take k) q = z at *
        obtain ⟨to, LL⟩ := z
        dsimp only at hto HWk
        have HAd := hid (radd_calls wr hF.out HWk.out (to : Int) x)
        have d1 : decide (0 < (to : Int)) = true := decide_eq_true (by omega)
        clear hx
        go_wp2_with fail
        refine HAd.out.mono ?_
        rintro e4 w4 ⟨rfl, f4, k4, i4⟩
        have F4 := hid (show RfS (Up S w1) r M (addsP M (s.2.take (k + 1)) q).2 w4 by
          rw [HT.out]
          refine f4.mono (fun b _ h => ?_)
          rcases h with h | h
          · exact h
          · exact .inr (Nat.le_trans hK.out.size h))
        have K4 := hid (hK.out.trans k4 (fun b hb h => by
          rcases h with h | h
          · exact h
          · omega))
        have I4 := hid (hI.out.trans i4)
        have HT1 := hid (show (addsP M (s.2.take (k + 1)) q).1 = addN M LL (to : Int) x by rw [HT.out])
        clear f4 k4 i4 HT hF hK hI
        go_wp2_with fail
        exact ⟨⟨k + 1, by omega, by simp, by rw [HT1.out], F4, K4, I4⟩, by simp [intOf]; omega⟩
      · have HE := hid (show addsP M s.2 q = addsP M (s.2.take k) q by
          by_cases hkl : k < s.2.length
          · have h0 : (addsP M (s.2.take k) q).1 = 0 := by omega
            conv => lhs; rw [← List.take_append_drop k s.2]
            rw [addsP_split]
            generalize addsP M (s.2.take k) q = z at *
            obtain ⟨to, LL⟩ := z
            dsimp only at h0
            subst h0
            exact addsP_no M _ LL
          · rw [List.take_of_length_le (by omega)])
        generalize addsP M (s.2.take k) q = z at *
        obtain ⟨to, LL⟩ := z
        dsimp only at hgo
        rcases (show k = s.2.length ∨ (k < s.2.length ∧ to = 0) by omega) with rfl | ⟨hkl, rfl⟩
        all_goals
          clear hgo
          go_wp2_with fail
          go_ret
          exact ⟨by rw [HE.out]; rfl, by rw [HE.out]; exact hF.out, hK.out⟩

theorem row_cap' {b n g cap : Nat} {T : TypeId} {z : Nat} {xs : List Value} {w : World} (h : w.ownsRow b T z (.slice (some ⟨g, 0, none⟩) n cap) n xs) : n ≤ cap ∧ cap ≤ maxLen := by
  rcases h.2 with ⟨h1, _⟩ | ⟨g', cap', cur, h1, _, _, h4, h5, _⟩
  · cases h1
  · injection h1 with _ _ h3
    subst h3
    exact ⟨h4, h5⟩
theorem ints_less' {g cap cap' : Nat} {ns : List Int} {x : Int} {w : World} (h : IntsAt (.slice (some ⟨g, 0, none⟩) (ns ++ [x]).length cap) (ns ++ [x]) w) : IntsAt (.slice (some ⟨g, 0, none⟩) ns.length cap') ns w := by
  rcases h with ⟨h, _⟩ | ⟨b, off, c, h1, h2, h3⟩
  · simp at h
  · injection h1 with h1
    injection h1 with h1
    injection h1 with e1 e2
    subst e1 e2
    exact .inr ⟨g, 0, cap', rfl, h2, fun j y hj => h3 j y (snoc_get x hj)⟩
theorem getS_cast (L : List Sh) (i : Nat) : getS L ((i : Int) + 1) = L[i]? := by
  have := getS_succ L i
  rwa [show ((i + 1 : Nat) : Int) = (i : Int) + 1 by omega] at this
set_option maxRecDepth 100000 in
set_option maxHeartbeats 4000000 in
theorem rparent_calls {S : Nat → Prop} {r M : Nat} {L : List Sh} (w : World) (h : RfS S r M L w) (wf : WfS M L) (id : Int) :
    Calls Tryz.prog 76 #[.pointer (some ⟨r, 0, none⟩), .int .i64 id] w fun e w' => e = .returned (.int .i64 (parF L id : Int)) ∧ Below w.heap.size w w' := by
  have hl150 : L.length ≤ 150 := by have h1 := wf.len; have h2 := wf.most; omega
  have HN := hid (rnames_calls w h hl150 id)
  have H := hid h
  have HW := hid wf
  have hrl := h.lt
  clear h wf
  by_cases hne : namesF L id = []
  · have hpf : parF L id = 0 := by
      unfold namesF at hne
      unfold parF
      split <;> rename_i hs
      · rw [hs] at hne
        dsimp only at hne
        unfold parS
        rw [if_pos hne]
      · rfl
    rw [hpf]
    rw [hne] at HN
    clear hpf hne
    go_enter Tryz.func76, Tryz.ntmps76
    go_wp2_with fail
    refine HN.out.mono ?_
    rintro e1 w1 ⟨⟨no, nc, rfl, _⟩, rfl⟩
    go_wp2_with fail
    go_ret
    exact ⟨rfl, Below.refl _ _⟩
  · obtain ⟨⟨p, ns0⟩, hg⟩ : ∃ s, getS L id = some s := by
      unfold namesF at hne
      cases hgs : getS L id with
      | some s => exact ⟨s, rfl⟩
      | none => rw [hgs] at hne; exact absurd rfl hne
    have hnf : namesF L id = ns0 := by unfold namesF; rw [hg]
    obtain ⟨i, rfl, hi⟩ := getS_some hg
    rw [hnf] at hne HN
    rcases List.eq_nil_or_concat ns0 with hns | ⟨ns, x, hns⟩
    · exact absurd hns hne
    · rw [List.concat_eq_append] at hns
      subst hns
      obtain ⟨j, hj, hgj, hpj⟩ := HW.out.par hi
      rw [show parF L ((i + 1 : Nat) : Int) = j + 1 from by unfold parF; rw [hg]; exact hpj]
      have hfew := HW.out.few i _ hi
      simp only [List.length_append, List.length_cons, List.length_nil, Nat.zero_add] at hfew
      have hil := lt_of_get hi
      have HI := hid hi
      have HJ := hid hgj
      have hjl := lt_of_get hgj
      clear hg hnf hne hi hgj hpj
      rw [show ((i + 1 : Nat) : Int) = (i : Int) + 1 by omega] at *
      go_enter Tryz.func76, Tryz.ntmps76
      go_wp2_with fail
      refine HN.out.mono ?_
      rintro e1 w1 ⟨⟨no, nc, rfl, hnam⟩, rfl⟩
      obtain ⟨nb, ncc, hnb, _, hnbl⟩ := hnam.1.form (by simp)
      injection hnb with e2 e3 e4
      subst e2 e4
      obtain ⟨hc1, hc2⟩ := row_cap' hnam.1
      have IN := hid (intsAt_row hnam.1)
      simp only [List.length_append, List.length_cons, List.length_nil, Nat.zero_add] at hc1
      have hlen : (ns ++ [x]).length = ns.length + 1 := by simp
      rw [hlen]
      have d0 : ((ns.length : Int) + 1 == 0) = false := by simp only [beq_eq_false_iff_ne]; omega
      have h13 : IntKind.i64.wrap (i : Int) = (i : Int) := by rw [IntKind.wrap_i64]; omega
      have h30 : IntKind.i64.wrap (ns.length : Int) = (ns.length : Int) := by rw [IntKind.wrap_i64]; omega
      have h31l : ns.length ≤ nc := by omega
      have h31 : 0 ≤ (ns.length : Int) ∧ (ns.length : Int) ≤ (nc : Int) := ⟨by omega, by omega⟩
      clear hnam HN hlen
      go_wp2_with fail
      go_loopw [6] (fun a wr => ∃ k : Nat, k ≤ j ∧ a = .int .i64 k ∧ Hid (Below w1.heap.size w1 wr)) (fun a _ => L.length - (intOf a).toNat)
      case atStart => exact ⟨0, Nat.zero_le _, rfl, hid (Below.refl _ _)⟩
      case round =>
        obtain ⟨k, hk, rfl, hB⟩ := hrel
        have hkl : k < L.length := by omega
        obtain ⟨⟨p2, ns2⟩, hs⟩ := ex_get hkl
        have hR := H.out.on hB.out
        obtain ⟨g, cap, no2, nc2, c0, hgl, c1, c2, c3, _⟩ := hR.at' hs
        obtain ⟨g', cap', no3, nc3, c0', _, c1', _⟩ := hR.at' HI.out
        rw [c0] at c0'
        injection c0' with c0'
        injection c0' with e1 e2 e3
        injection e1 with e1
        injection e1 with e1
        subst e1 e3
        dsimp only at c1 c2 c3 c1'
        have hrl2 := hR.lt
        have hfew2 := HW.out.few k _ hs
        dsimp only at hfew2
        have hkj : k = j ∨ (p2, ns2) ≠ (p, ns) := by
          by_cases e : k = j
          · exact .inl e
          · exact .inr (fun e' => e (HW.out.once k j _ hs (by rw [e']; exact HJ.out)))
        have HKJ := hid hkj
        have HS := hid hs
        have ST := hid (show ∀ a, Below wr.heap.size wr a → a.cell? ⟨r, 0, none⟩ = some (.slice (some ⟨g, 0, none⟩) L.length cap) ∧ a.cell? ⟨g, k * 2, none⟩ = some (.int .i64 p2) ∧ a.cell? ⟨g, k * 2 + 1, none⟩ = some (.slice no2 ns2.length nc2) ∧ a.cell? ⟨g, i * 2, none⟩ = some (.int .i64 p) from fun a ka => ⟨(ka.cell (p := ⟨r, 0, none⟩) hrl2).trans c0, (ka.cell (p := ⟨g, k * 2, none⟩) hgl).trans c1, (ka.cell (p := ⟨g, k * 2 + 1, none⟩) hgl).trans c2, (ka.cell (p := ⟨g, i * 2, none⟩) hgl).trans c1'⟩)
        by_cases hpp : p2 = p
        · subst hpp
          have HSm := hid (rsame_calls wr.drew (intsAt_on (intsAt_row c3.1) (Below.refl _ wr).drew) (ints_less' (cap' := nc) (intsAt_on IN.out hB.out.drew)) (by omega))
          clear c3 hs hR hkj
          by_cases hnn : ns2 = ns
          · subst hnn
            rw [decide_eq_true rfl] at HSm
            have hkk : k = j := by
              rcases HKJ.out with e | e
              · exact e
              · exact absurd rfl e
            subst hkk
            go_wp2_with fail
            refine wp_region_held_drew (S := fun a => a.cell? ⟨r, 0, none⟩ = some (.slice (some ⟨g, 0, none⟩) L.length cap) ∧ a.cell? ⟨g, k * 2, none⟩ = some (.int .i64 p2) ∧ a.cell? ⟨g, k * 2 + 1, none⟩ = some (.slice no2 ns2.length nc2) ∧ a.cell? ⟨g, i * 2, none⟩ = some (.int .i64 p2)) (by kernel_rfl) ⟨c0, c1, c2, c1'⟩ (fun hHeld => ?_)
            refine tkk 0 ?_
            refine tkk 1 ?_
            refine tkk 2 ?_
            refine tkk 3 ?_
            refine tkk 4 ?_
            refine tkk 5 ?_
            refine tkk 6 ?_
            refine tkk 7 ?_
            refine tkk 8 ?_
            refine tkk 9 ?_
            refine tkk 10 ?_
            refine tkk 11 ?_
            refine tkk 12 ?_
            refine tk 13 (v := .int .i64 (i : Int)) ?_ ?_
            · (intro w hSw; go_simp <;> first | exact h13 | (simp only [h13]))
            refine tkk 14 ?_
            refine tkk 15 ?_
            refine tkk 16 ?_
            refine tkk 17 ?_
            refine tkk 18 ?_
            refine tkk 19 ?_
            refine tkk 20 ?_
            refine tkk 21 ?_
            refine tkk 22 ?_
            refine tkk 23 ?_
            refine tkk 24 ?_
            refine tkk 25 ?_
            refine tkk 26 ?_
            refine tkk 27 ?_
            refine tkk 28 ?_
            refine tkk 29 ?_
            refine tk 30 (v := .int .i64 (ns2.length : Int)) ?_ ?_
            · (intro w hSw; go_simp <;> first | exact h30 | (simp only [h30]))
            refine tk 31 (v := .slice (some ⟨nb, 0, none⟩) ns2.length nc) ?_ ?_
            · (intro w hSw; go_simp <;> first | (rw [if_pos h31, Int.toNat_natCast]; done) | (rw [if_pos h31, Int.toNat_natCast]; rfl) | (simp [h31l]; done))
            refine rdy 32 (fun K hK => ?_)
            go_simp
            refine HSm.out.mono ?_
            rintro e2 w2 ⟨rfl, b2⟩
            have B2 := hid ((Below.refl _ wr).drew.trans b2)
            go_simp
            refine hK.out _ _ (ST.out _ B2.out) (fun _ => ?_)
            clear hK K b2 hHeld
            refine tkk 33 ?_
            refine wpAnyH_done (by kernel_rfl) ?_ _
            go_wp2_with fail
            go_ret
            exact ⟨by simp, below_on hB.out B2.out⟩
          · rw [decide_eq_false hnn] at HSm
            have hkk : k < j := by
              rcases Nat.lt_or_ge k j with e | e
              · exact e
              · exfalso
                have e' : k = j := by omega
                subst e'
                have := HS.out
                rw [HJ.out] at this
                injection this with this
                injection this with _ this
                exact hnn this.symm
            clear hnn
            go_wp2_with fail
            refine wp_region_held_drew (S := fun a => a.cell? ⟨r, 0, none⟩ = some (.slice (some ⟨g, 0, none⟩) L.length cap) ∧ a.cell? ⟨g, k * 2, none⟩ = some (.int .i64 p2) ∧ a.cell? ⟨g, k * 2 + 1, none⟩ = some (.slice no2 ns2.length nc2) ∧ a.cell? ⟨g, i * 2, none⟩ = some (.int .i64 p2)) (by kernel_rfl) ⟨c0, c1, c2, c1'⟩ (fun hHeld => ?_)
            refine tkk 0 ?_
            refine tkk 1 ?_
            refine tkk 2 ?_
            refine tkk 3 ?_
            refine tkk 4 ?_
            refine tkk 5 ?_
            refine tkk 6 ?_
            refine tkk 7 ?_
            refine tkk 8 ?_
            refine tkk 9 ?_
            refine tkk 10 ?_
            refine tkk 11 ?_
            refine tkk 12 ?_
            refine tk 13 (v := .int .i64 (i : Int)) ?_ ?_
            · (intro w hSw; go_simp <;> first | exact h13 | (simp only [h13]))
            refine tkk 14 ?_
            refine tkk 15 ?_
            refine tkk 16 ?_
            refine tkk 17 ?_
            refine tkk 18 ?_
            refine tkk 19 ?_
            refine tkk 20 ?_
            refine tkk 21 ?_
            refine tkk 22 ?_
            refine tkk 23 ?_
            refine tkk 24 ?_
            refine tkk 25 ?_
            refine tkk 26 ?_
            refine tkk 27 ?_
            refine tkk 28 ?_
            refine tkk 29 ?_
            refine tk 30 (v := .int .i64 (ns.length : Int)) ?_ ?_
            · (intro w hSw; go_simp <;> first | exact h30 | (simp only [h30]))
            refine tk 31 (v := .slice (some ⟨nb, 0, none⟩) ns.length nc) ?_ ?_
            · (intro w hSw; go_simp <;> first | (rw [if_pos h31, Int.toNat_natCast]; done) | (rw [if_pos h31, Int.toNat_natCast]; rfl) | (simp [h31l]; done))
            refine rdy 32 (fun K hK => ?_)
            go_simp
            refine HSm.out.mono ?_
            rintro e2 w2 ⟨rfl, b2⟩
            have B2 := hid ((Below.refl _ wr).drew.trans b2)
            go_simp
            refine hK.out _ _ (ST.out _ B2.out) (fun _ => ?_)
            clear hK K b2 hHeld
            refine tkk 33 ?_
            refine wpAnyH_done (by kernel_rfl) ?_ _
            go_wp2_with fail
            exact ⟨⟨k + 1, by omega, by simp, hid (below_on hB.out B2.out)⟩, by simp [intOf]; omega⟩
        · have dpp : (p2 == p) = false := by simpa using hpp
          have hkk : k < j := by
            rcases Nat.lt_or_ge k j with e | e
            · exact e
            · exfalso
              have e' : k = j := by omega
              subst e'
              have := HS.out
              rw [HJ.out] at this
              injection this with this
              injection this with this _
              exact hpp this.symm
          clear c3 hs hR hkj hpp
          go_wp2_with fail
          refine wp_region_held_drew (S := fun a => a.cell? ⟨r, 0, none⟩ = some (.slice (some ⟨g, 0, none⟩) L.length cap) ∧ a.cell? ⟨g, k * 2, none⟩ = some (.int .i64 p2) ∧ a.cell? ⟨g, k * 2 + 1, none⟩ = some (.slice no2 ns2.length nc2) ∧ a.cell? ⟨g, i * 2, none⟩ = some (.int .i64 p)) (by kernel_rfl) ⟨c0, c1, c2, c1'⟩ (fun hHeld => ?_)
          refine tkk 0 ?_
          refine tkk 1 ?_
          refine tkk 2 ?_
          refine tkk 3 ?_
          refine tkk 4 ?_
          refine tkk 5 ?_
          refine tkk 6 ?_
          refine tkk 7 ?_
          refine tkk 8 ?_
          refine tkk 9 ?_
          refine tkk 10 ?_
          refine tkk 11 ?_
          refine tkk 12 ?_
          refine tk 13 (v := .int .i64 (i : Int)) ?_ ?_
          · (intro w hSw; go_simp <;> first | exact h13 | (simp only [h13]))
          refine tkk 14 ?_
          refine tkk 15 ?_
          refine tkk 16 ?_
          refine tkk 17 ?_
          refine tkk 18 ?_
          refine tks 19 ?_
          refine tks 20 ?_
          refine tks 21 ?_
          refine tks 22 ?_
          refine tks 23 ?_
          refine tks 24 ?_
          refine tks 25 ?_
          refine tks 26 ?_
          refine tks 27 ?_
          refine tks 28 ?_
          refine tks 29 ?_
          refine tks 30 ?_
          refine tks 31 ?_
          refine tks 32 ?_
          refine tkk 33 ?_
          refine wpAnyH_done (by kernel_rfl) ?_ _
          go_wp2_with fail
          exact ⟨⟨k + 1, by omega, by simp, hid hB.out.drew⟩, by simp [intOf]; omega⟩

end Go.Proofs.YtemidicgipebjaaGreat
