/- Whether two units are alike: the program's Same. A unit that is not too great, as the document asks. -/
import Derived.Test.YtmihckhflbepjaaDoorTreeSame
import Derived.Test.YtmihckhflbepjaaDoorUnSame
import Derived.Test.YtmihckhflbepjaaDoorMapG
import Derived.Test.YtmihckhflbepjaaDoorJoint5
namespace Go.Proofs.YtmihckhflbepjaaDoor
set_option linter.unusedSimpArgs false
open Go.RowKit

theorem two_blks (w : World) (T U : TypeId) (cs ds : Array Value) : Blk w.heap.size T cs ((w.alloc (.cells cs T)).alloc (.cells ds U)) ∧ Blk (w.heap.size + 1) U ds ((w.alloc (.cells cs T)).alloc (.cells ds U)) ∧ Below w.heap.size w ((w.alloc (.cells cs T)).alloc (.cells ds U)) := by
  have x := blk_new (w.alloc (.cells cs T)) U ds
  rw [World.size_alloc] at x
  exact ⟨blk_on (blk_new w T cs) ((Below.refl _ _).alloc (Nat.le_refl _) _), x, ((Below.refl w.heap.size w).alloc (Nat.le_refl _) _).alloc (by simp) _⟩
/-- functions whose nodes are not too great -/
def FineB (l : List Nd) : Prop := (∀ x ∈ l, smallN x = true) ∧ countL l ≤ 1000000
theorem sameFn_calls (p q : Int) (l : List Nd) (p' q' : Int) (l' : List Nd) (B : Nat) (w : World) (kv kv' : Value) (hB : B ≤ w.heap.size) (h1 : Hid (KidsIn B w kv l)) (h2 : Hid (KidsIn B w kv' l')) (hF : Hid (FineB l)) :
    Calls Tryd.prog 33 #[.agg #[.int .i64 p, .int .i64 q, kv], .agg #[.int .i64 p', .int .i64 q', kv']] w fun e w' => e = .returned (.bool (sameF (p, q, l) (p', q', l'))) ∧ Below w.heap.size w w' := by
  obtain ⟨ka, kc, rfl, _⟩ := kidsIn_cases h1.out
  obtain ⟨ka', kc', rfl, _⟩ := kidsIn_cases h2.out
  have H := hid (show sameF (p, q, l) (p', q', l') = ((p == p') && ((q == q') && sameL l l')) from rfl)
  have T := two_blks w 45 45 #[.int .i64 p, .int .i64 q, .slice ka l.length kc] #[.int .i64 p', .int .i64 q', .slice ka' l'.length kc']
  have HT := hid T.2.2
  have HE := hid (equalfunc_calls B ((w.alloc (.cells #[.int .i64 p, .int .i64 q, .slice ka l.length kc] 45)).alloc (.cells #[.int .i64 p', .int .i64 q', .slice ka' l'.length kc'] 45)) (.slice ka l.length kc) (.slice ka' l'.length kc') l l' (Nat.le_trans hB T.2.2.size) (hid (kidsIn_on (T.2.2.mono hB) h1.out)) (hid (kidsIn_on (T.2.2.mono hB) h2.out)) hF.out.1 hF.out.2 (hid (fun x _ => same_calls x)))
  clear T
  cases e1 : (p == p')
  · rw [e1] at H
    go_enter Tryd.func33, Tryd.ntmps33
    go_wp2_with fail
    go_ret
    exact ⟨by rw [H.out]; rfl, HT.out⟩
  · rw [e1] at H
    cases e2 : (q == q')
    · rw [e2] at H
      go_enter Tryd.func33, Tryd.ntmps33
      go_wp2_with fail
      go_ret
      exact ⟨by rw [H.out]; rfl, HT.out⟩
    · rw [e2] at H
      go_enter Tryd.func33, Tryd.ntmps33
      go_wp2_with fail
      refine HE.out.mono ?_
      rintro e w1 ⟨rfl, b1⟩
      have B1 := hid (below_on HT.out b1)
      clear b1 HE
      go_wp2_with fail
      go_ret
      exact ⟨by rw [H.out]; rfl, B1.out⟩
def FineS (fs : List Fq) : Prop := fs.length ≤ 1000000 ∧ ∀ f ∈ fs, FineB f.2.2
set_option maxHeartbeats 3200000 in
theorem fequal_calls (fs fs' : List Fq) (B : Nat) (w : World) (fv fv' : Value) (hB : B ≤ w.heap.size) (h1 : Hid (FnsIn B w fv fs)) (h2 : Hid (FnsIn B w fv' fs')) (hF : Hid (FineS fs)) :
    Calls Tryd.prog 32 #[fv, fv', .func (.func 33) #[] #[]] w fun e w' => e = .returned (.bool (sameFs fs fs')) ∧ Below w.heap.size w w' := by
  obtain ⟨ao, cap, rfl⟩ := fnsIn_shape h1.out
  obtain ⟨ao', cap', rfl⟩ := fnsIn_shape h2.out
  have hfl := hF.out.1
  by_cases hl : fs.length = fs'.length
  · have e0 : ((fs.length : Int) != (fs'.length : Int)) = false := by rw [hl]; simp
    have HL := hid hl
    clear hl
    go_enter Tryd.func32, Tryd.ntmps32
    go_wp2_with fail
    go_loopw [17] (fun i wr => ∃ j : Nat, j ≤ fs.length ∧ i = .int .i64 j ∧ Hid (∀ i a b, i < j → fs[i]? = some a → fs'[i]? = some b → sameF a b = true) ∧ Hid (Below w.heap.size w wr)) (fun i _ => fs.length - (intOf i).toNat)
    case atStart => exact ⟨0, Nat.zero_le _, rfl, hid (fun i a b h => absurd h (Nat.not_lt_zero _)), hid (Below.refl _ _)⟩
    case round =>
      obtain ⟨j, hj, rfl, hq, BB⟩ := hrel
      by_cases hjl : j < fs.length
      · have hjl' : j < fs'.length := by have := HL.out; omega
        obtain ⟨f, hf⟩ : ∃ e, fs[j]? = some e := ⟨fs[j], List.getElem?_eq_getElem hjl⟩
        obtain ⟨f', hf'⟩ : ∃ e, fs'[j]? = some e := ⟨fs'[j], List.getElem?_eq_getElem hjl'⟩
        obtain ⟨b, off, hao, hbB, kv, d0, d1, d2, hk⟩ := fnsIn_at h1.out hf
        obtain ⟨b', off', hao', hbB', kv', d0', d1', d2', hk'⟩ := fnsIn_at h2.out hf'
        subst hao hao'
        have hb' := BB.out.mono hB
        have c0 := cell_keep hb' hbB d0
        have c1 := cell_keep hb' hbB d1
        have c2 := cell_keep hb' hbB d2
        have g0 := cell_keep hb' hbB' d0'
        have g1 := cell_keep hb' hbB' d1'
        have g2 := cell_keep hb' hbB' d2'
        have hfine := hid (hF.out.2 f (List.mem_of_getElem? hf))
        have HK := hid (kidsIn_on hb' hk)
        have HK' := hid (kidsIn_on hb' hk')
        obtain ⟨ka, kc, rfl, _⟩ := kidsIn_cases hk
        obtain ⟨ka', kc', rfl, _⟩ := kidsIn_cases hk'
        have HN := hid (fun hn => sameFs_no hf hf' hn)
        have HQ := hid (fun (he : sameF f f' = true) => show ∀ i a b, i < j + 1 → fs[i]? = some a → fs'[i]? = some b → sameF a b = true from fun i a b h3 h4 h5 => by
          rcases Nat.lt_or_ge i j with h6 | h6
          · exact hq.out i a b h6 h4 h5
          · obtain rfl : i = j := by omega
            rw [hf] at h4
            rw [hf'] at h5
            cases h4
            cases h5
            exact he)
        have hsz := BB.out.size
        have hbw : b < wr.heap.size := by omega
        have hbw' : b' < wr.heap.size := by omega
        obtain ⟨p, q, l⟩ := f
        obtain ⟨p', q', l'⟩ := f'
        dsimp only at *
        have T := two_blks wr 45 45 #[.int .i64 p, .int .i64 q, .slice ka l.length kc] #[.int .i64 p', .int .i64 q', .slice ka' l'.length kc']
        have HT := hid T.2.2
        have SF := hid (sameFn_calls p q l p' q' l' B ((wr.alloc (.cells #[.int .i64 p, .int .i64 q, .slice ka l.length kc] 45)).alloc (.cells #[.int .i64 p', .int .i64 q', .slice ka' l'.length kc'] 45)) (.slice ka l.length kc) (.slice ka' l'.length kc') (by have := T.2.2.size; omega) (hid (kidsIn_on (T.2.2.mono (by omega)) HK.out)) (hid (kidsIn_on (T.2.2.mono (by omega)) HK'.out)) hfine)
        clear T hk hk' hb' hq hf hf' d0 d1 d2 d0' d1' d2'
        go_wp2_with fail
        refine SF.out.mono ?_
        rintro e w1 ⟨rfl, b1⟩
        have B1 := hid (below_on BB.out (below_on HT.out b1))
        clear b1 SF
        generalize sameF (p, q, l) (p', q', l') = sb at *
        cases sb
        · have H := hid (HN.out rfl)
          clear HN HQ
          go_wp2_with fail
          go_ret
          exact ⟨by rw [H.out]; rfl, B1.out⟩
        · have H := hid (HQ.out rfl)
          clear HN HQ
          go_wp2_with fail
          go_roundw
          case rel => exact ⟨j + 1, by omega, by go_num, H, B1⟩
          case measure => simp [intOf]; omega
      · have H := hid (sameFs_all HL.out (fun i a b h3 h4 => hq.out i a b (by have := (List.getElem?_eq_some_iff.1 h3).1; omega) h3 h4))
        clear hq
        go_wp2_with fail
        go_ret
        exact ⟨by rw [H.out]; rfl, BB.out⟩
  · have H := hid (sameFs_lenF hl)
    have e0 : ((fs.length : Int) != (fs'.length : Int)) = true := by rw [bne_iff_ne]; omega
    clear hl
    go_enter Tryd.func32, Tryd.ntmps32
    go_wp2_with fail
    go_ret
    exact ⟨by rw [H.out]; rfl, Below.refl _ _⟩
theorem scsame_calls (G G' : Int) (fs fs' : List Fq) (B : Nat) (w : World) (fv fv' : Value) (hB : B ≤ w.heap.size) (h1 : Hid (FnsIn B w fv fs)) (h2 : Hid (FnsIn B w fv' fs')) (hF : Hid (FineS fs)) :
    Calls Tryd.prog 15 #[.agg #[.int .i64 G, fv], .agg #[.int .i64 G', fv']] w fun e w' => e = .returned (.bool (sameU G fs G' fs')) ∧ Below w.heap.size w w' := by
  obtain ⟨ao, cap, rfl⟩ := fnsIn_shape h1.out
  obtain ⟨ao', cap', rfl⟩ := fnsIn_shape h2.out
  have H := hid (show sameU G fs G' fs' = ((G == G') && sameFs fs fs') from rfl)
  have T := two_blks w 30 30 #[.int .i64 G, .slice ao fs.length cap] #[.int .i64 G', .slice ao' fs'.length cap']
  have HT := hid T.2.2
  have HE := hid (fequal_calls fs fs' B ((w.alloc (.cells #[.int .i64 G, .slice ao fs.length cap] 30)).alloc (.cells #[.int .i64 G', .slice ao' fs'.length cap'] 30)) (.slice ao fs.length cap) (.slice ao' fs'.length cap') (Nat.le_trans hB T.2.2.size) (hid (fnsIn_on h1.out (T.2.2.mono hB))) (hid (fnsIn_on h2.out (T.2.2.mono hB))) hF)
  clear T
  cases e1 : (G == G')
  · rw [e1] at H
    go_enter Tryd.func15, Tryd.ntmps15
    go_wp2_with fail
    go_ret
    exact ⟨by rw [H.out]; rfl, HT.out⟩
  · rw [e1] at H
    go_enter Tryd.func15, Tryd.ntmps15
    go_wp2_with fail
    refine HE.out.mono ?_
    rintro e w1 ⟨rfl, b1⟩
    have B1 := hid (below_on HT.out b1)
    clear b1 HE
    go_wp2_with fail
    go_ret
    exact ⟨by rw [H.out]; rfl, B1.out⟩

end Go.Proofs.YtmihckhflbepjaaDoor

namespace Go.Proofs.YtmihckhflbepjaaDoor
set_option linter.unusedSimpArgs false
open Go.RowKit

theorem few_m (t : Nd) (B : Nat) (w : World) (nv kv : Value) (m : Int) (h0 : 0 ≤ m) (h1 : m ≤ 1000) (hB : B ≤ w.heap.size) (hN : Hid (NdIn B w t nv kv)) :
    Calls Tryd.prog 7 #[.agg #[.int .i64 t.kind, .int .i64 t.op, .int .i64 t.num, .string t.str, nv, kv, .int .i64 t.pl], .int .i64 m] w fun e w' =>
      e = .returned (.bool (decide (0 ≤ leftN t m 40))) ∧ Below w.heap.size w w' := by
  obtain ⟨a1, q1, a2, q2, rfl, rfl⟩ := ndIn_shape hN.out
  have b0 := (Below.refl w.heap.size w).alloc (Nat.le_refl _) (.cells #[.int .i64 t.kind, .int .i64 t.op, .int .i64 t.num, .string t.str, .slice a1 t.names.length q1, .slice a2 t.kids.length q2, .int .i64 t.pl] 25)
  have B0 := hid b0
  have N := hid (ndIn_on (b0.mono hB) _ _ _ hN.out)
  clear b0 hN
  go_enter Tryd.func7, Tryd.ntmps7
  go_wp2_with fail
  refine (left_calls t B _ _ _ m 40 (by simp; omega) N h0 h1 (by omega)).mono ?_
  rintro e w1 ⟨rfl, b1⟩
  have B1 := hid (below_in B0.out (by simp) b1)
  clear b1 B0 N
  go_wp2_with fail
  go_ret
  exact ⟨rfl, B1.out⟩
/-- functions with few nodes: as the document's Few has it -/
def FewV (fs : List Fq) : Prop := fs.length ≤ 40 ∧ ∀ f ∈ fs, f.2.2.length ≤ 60 ∧ ∀ x ∈ f.2.2, smallN x = true ∧ countN x ≤ 300
theorem all_more {α : Type} {P : α → Prop} {l : List α} {j : Nat} (hj : j < l.length) (h : ∀ (q : Nat) (hq : q < l.length), q < j → P l[q]) (h2 : P l[j]) : ∀ (q : Nat) (hq : q < l.length), q < j + 1 → P l[q] := fun q h1 h3 => by
  rcases Nat.lt_or_ge q j with h4 | h4
  · exact h q h1 h4
  · obtain rfl : q = j := by omega
    exact h2
theorem all_mem {α : Type} {P : α → Prop} {l : List α} (h : ∀ (q : Nat) (hq : q < l.length), q < l.length → P l[q]) : ∀ x ∈ l, P x := fun x hx => by
  obtain ⟨q, hq, rfl⟩ := List.getElem_of_mem hx
  exact h q hq hq
set_option maxRecDepth 100000 in
set_option maxHeartbeats 8000000 in
theorem ufew_calls (G : Int) (fv : Value) (fs : List Fq) (B : Nat) (w : World) (hB : B ≤ w.heap.size) (h1 : Hid (FnsIn B w fv fs)) :
    Calls Tryd.prog 12 #[.agg #[.int .i64 G, fv], .int .i64 300] w fun e w' => (∃ r : Bool, e = .returned (.bool r) ∧ (r = true → FewV fs)) ∧ Below w.heap.size w w' := by
  obtain ⟨fa, fc, rfl⟩ := fnsIn_shape h1.out
  have A := (Below.refl w.heap.size w).alloc (Nat.le_refl _) (.cells #[.int .i64 G, .slice fa fs.length fc] 30)
  have X := hid (blk_new w 30 #[.int .i64 G, .slice fa fs.length fc])
  have HA := hid A
  clear A
  by_cases hlen : fs.length ≤ 40
  case neg =>
    have hd : decide (40 < (fs.length : Int)) = true := decide_eq_true (by omega)
    go_enter Tryd.func12, Tryd.ntmps12
    go_wp2_with fail
    go_ret
    exact ⟨⟨false, rfl, fun h => by cases h⟩, HA.out⟩
  case pos =>
    have hd : decide (40 < (fs.length : Int)) = false := decide_eq_false (by omega)
    go_enter Tryd.func12, Tryd.ntmps12
    go_wp2_with fail
    generalize hW : w.alloc (.cells #[.int .i64 G, .slice fa fs.length fc] 30) = w2 at *
    clear hW hd
    have hz2 := HA.out.size
    go_loopw [1, 5] (fun mv i wr => ∃ (j : Nat) (m : Int), j ≤ fs.length ∧ i = .int .i64 j ∧ mv = .int .i64 m ∧ (0 ≤ m ∧ m ≤ 300) ∧ Hid (∀ (q : Nat) (hq : q < fs.length), q < j → fs[q].2.2.length ≤ 60 ∧ ∀ x ∈ fs[q].2.2, smallN x = true ∧ countN x ≤ 300) ∧ Hid (Below w2.heap.size w2 wr)) (fun _ i _ => fs.length - (intOf i).toNat)
    case atStart => exact ⟨0, 300, Nat.zero_le _, rfl, rfl, by omega, hid (fun q _ h => absurd h (Nat.not_lt_zero _)), hid (Below.refl _ _)⟩
    case round =>
      obtain ⟨j, m, hj, rfl, rfl, hm, hq, BB⟩ := hrel
      have c1 : wr.cell? ⟨w.heap.size, 1, none⟩ = some (.slice fa fs.length fc) := (blk_cell (blk_on X.out BB.out) 1).trans rfl
      by_cases hjl : j < fs.length
      · obtain ⟨b, off, hao, hbB, kv, d0, d1, d2, hk⟩ := fnsIn_at h1.out (List.getElem?_eq_getElem hjl)
        subst hao
        have hb0 := below_on HA.out BB.out
        have hb' := hb0.mono hB
        have e2 := cell_keep hb' hbB d2
        obtain ⟨ka, kc, rfl, hks⟩ := kidsIn_cases hk
        have K1 := hid hks
        have HQ := hid (fun h2 => all_more (P := fun f : Fq => f.2.2.length ≤ 60 ∧ ∀ x ∈ f.2.2, smallN x = true ∧ countN x ≤ 300) hjl hq.out h2)
        generalize fs[j] = f at *
        obtain ⟨p, q, l⟩ := f
        dsimp only at *
        have HB0 := hid hb0
        have D2 := hid d2
        clear hk hks hb' hb0 hq d0 d1 d2
        by_cases hl60 : l.length ≤ 60
        case neg =>
          have hd : decide (60 < (l.length : Int)) = true := decide_eq_true (by omega)
          go_wp2_with fail
          go_ret
          exact ⟨⟨false, rfl, fun h => by cases h⟩, HB0.out⟩
        case pos =>
          have hd : decide (60 < (l.length : Int)) = false := decide_eq_false (by omega)
          go_wp2_with fail
          clear hd c1 e2
          generalize wr = w3 at *
          go_loopw [1, 6] (fun mv i wr' => ∃ (i' : Nat) (m' : Int), i' ≤ l.length ∧ i = .int .i64 i' ∧ mv = .int .i64 m' ∧ (0 ≤ m' ∧ m' ≤ 300) ∧ Hid (∀ (q : Nat) (hq : q < l.length), q < i' → smallN l[q] = true ∧ countN l[q] ≤ 300) ∧ Hid (Below w3.heap.size w3 wr')) (fun _ i _ => l.length - (intOf i).toNat)
          case atStart => exact ⟨0, m, Nat.zero_le _, rfl, rfl, hm, hid (fun q _ h => absurd h (Nat.not_lt_zero _)), hid (Below.refl _ _)⟩
          case round =>
            obtain ⟨i', m', hi, rfl, rfl, hm', hq', BI⟩ := hrel
            have hbI := below_on HB0.out BI.out
            have HBI := hid hbI
            have hszI := hbI.size
            have c1 : wr.cell? ⟨w.heap.size, 1, none⟩ = some (.slice (some ⟨b, off, none⟩) fs.length fc) := (blk_cell (blk_on X.out (below_on BB.out BI.out)) 1).trans rfl
            have e2 := cell_keep (hbI.mono hB) hbB D2.out
            by_cases hil : i' < l.length
            · obtain ⟨b2, off2, rfl, hb2, hat⟩ := K1.out.resolve_left (fun h => by rw [h] at hil; cases hil)
              obtain ⟨nv1, kv1, hnode, hin⟩ := ndsAt_get hat i' hil
              obtain ⟨g0, g1, g2, g3, g4, g5, g6⟩ := nodeAt_on hnode hb2 (hbI.mono hB)
              have HIN := hid hin
              have HND := hid hnode
              have cl := hid (few_m l[i'] B wr nv1 kv1 m' hm'.1 (by omega) (by omega) (hid (ndIn_on (hbI.mono hB) _ _ _ hin)))
              have HQ2 := hid (fun h2 => all_more (P := fun x : Nd => smallN x = true ∧ countN x ≤ 300) hil hq'.out h2)
              generalize l[i'] = x at *
              obtain ⟨a1, z1, a2, z2, rfl, rfl⟩ := ndIn_shape hin
              clear hin hnode hat hq' hbI
              go_wp2_with fail
              refine cl.out.mono ?_
              rintro e4 w4 ⟨rfl, b4⟩
              have B4 := hid (below_on BI.out b4)
              have HB4 := hid (below_on HBI.out b4)
              clear b4 cl c1 e2 g0 g1 g2 g3 g4 g5 g6
              cases hlv : decide (0 ≤ leftN x m' 40)
              · clear hlv
                go_wp2_with fail
                go_ret
                exact ⟨⟨false, rfl, fun h => by cases h⟩, HB4.out⟩
              · obtain ⟨k1, k2, k3⟩ := leftN_count x m' 40 (of_decide_eq_true hlv)
                have k4 : 0 ≤ m' - (countN x : Int) := by rw [← k1]; exact of_decide_eq_true hlv
                have c1 : w4.cell? ⟨w.heap.size, 1, none⟩ = some (.slice (some ⟨b, off, none⟩) fs.length fc) := (blk_cell (blk_on X.out (below_on BB.out B4.out)) 1).trans rfl
                have e2 := cell_keep (HB4.out.mono hB) hbB D2.out
                obtain ⟨g0, g1, g2, g3, g4, g5, g6⟩ := nodeAt_on HND.out hb2 (HB4.out.mono hB)
                have hz4 := HB4.out.size
                have CN := hid (refcount_calls x B w4 _ _ (by omega) (hid (ndIn_on (HB4.out.mono hB) _ _ _ HIN.out)) (by omega))
                clear hlv k1 k2
                generalize countN x = cx at *
                go_wp2_with fail
                refine CN.out.mono ?_
                rintro e5 w5 ⟨rfl, b5⟩
                have B5 := hid (below_on B4.out b5)
                clear b5 CN
                go_wp2_with fail
                go_roundw
                case rel => exact ⟨i' + 1, m' - cx, by omega, by go_num, by go_num, by omega, hid (HQ2.out ⟨k3, by omega⟩), B5⟩
                case measure => simp [intOf]; omega
            · have hie : i' = l.length := by omega
              subst hie
              have H2 := hid (HQ.out ⟨hl60, all_mem (P := fun x : Nd => smallN x = true ∧ countN x ≤ 300) (fun q h1 _ => hq'.out q h1 (by omega))⟩)
              clear hbI hq'
              go_wp2_with fail
              go_roundw
              case rel => exact ⟨j + 1, m', by omega, by go_num, rfl, hm', H2, hid (below_on BB.out BI.out)⟩
              case measure => simp [intOf]; omega
      · have H := hid (show FewV fs from ⟨hlen, all_mem (fun q hq1 _ => hq.out q hq1 (by omega))⟩)
        have hje : j = fs.length := by omega
        subst hje
        have hd : decide (0 ≤ m) = true := decide_eq_true hm.1
        clear hq
        go_wp2_with fail
        go_ret
        exact ⟨⟨true, rfl, fun _ => H.out⟩, below_on HA.out BB.out⟩

end Go.Proofs.YtmihckhflbepjaaDoor
