/- What a function declares. -/
import Derived.Test.YtmihckhflbepjaaDoorTk
import Derived.Test.YtmihckhflbepjaaDoorJoint3
import Derived.Test.YtmihckhflbepjaaDoorNdOwn
import Derived.Maps.OwnSet
namespace Go.Proofs.YtmihckhflbepjaaDoor
set_option linter.unusedSimpArgs false
open Go.RowKit

theorem underNm : Tryd.prog.underlying 49 = some (.map 9 3) := by kernel_rfl
/-- block m is the map of the names l -/
def NmAt (m : Nat) (l : List ByteArray) (w : World) : Prop := MapN m (idxF l) l.length w
theorem nmAt_new (w : World) : NmAt w.heap.size [] (w.alloc (.map #[] 0)) := mapN_new w
theorem idxF_snoc {l : List ByteArray} {s : ByteArray} (h : idxN l s = none) (y : ByteArray) : putF (idxF l) s (l.length : Int) y = idxF (l ++ [s]) y := by
  unfold putF idxF
  rw [idxN_snoc]
  by_cases hy : y = s
  · subst hy
    rw [if_pos rfl, h]
    simp
  · rw [if_neg hy]
    rcases Option.eq_none_or_eq_some (idxN l y) with h1 | ⟨j, h1⟩
    · rw [h1]; simp [show ¬ s = y from fun e => hy e.symm]
    · rw [h1]; simp
theorem idxF_some (l : List ByteArray) (s : ByteArray) : (idxF l s).isSome = (idxN l s).isSome := by unfold idxF; cases idxN l s <;> rfl
/-- names that were declared, or else nothing -/
def Decl (m : Nat) (x : Rz (List ByteArray)) (w : World) : Prop := match x with | .ok l => NmAt m l w | .bad _ _ => True
theorem declare_calls {m : Nat} {l : List ByteArray} (w : World) (h : NmAt m l w) (hl : l.length ≤ 1000000) (s : ByteArray) (hs : s.size ≤ 1000000) (p : Int) :
    Calls Tryd.prog 58 #[.map (some m), .string s] w fun e w' => e = .returned (.int .i64 (declE l s)) ∧ Decl m (declR l s p) w' ∧ w.grownBy w' (some m) := by
  have hsl : s.size ≤ maxLen := by unfold maxLen; omega
  have H := hid h
  have G0 : w.grownBy w (some m) := ⟨rfl, rfl, rfl, Nat.le_refl _, fun _ _ _ => rfl⟩
  have HG := hid G0
  clear h G0
  cases hi : idxN l s with
  | some i =>
    have hF : idxF l s = some (i : Int) := by unfold idxF; rw [hi]; rfl
    have HE := hid (show declE l s = 15 by unfold declE; rw [hi]; rfl)
    have HR := hid (show Decl m (declR l s p) w by unfold declR; rw [HE.out]; exact trivial)
    clear hi
    go_enter Tryd.func58, Tryd.ntmps58
    go_wp2_with (first | (at_lookup; refine gm_look underNm rfl _ _ rfl m _ _ s rfl H.out rfl hsl ?_; rw [hF]) | fail)
    go_ret
    exact ⟨by rw [HE.out]; rfl, HR.out, HG.out⟩
  | none =>
    have hF : idxF l s = none := by unfold idxF; rw [hi]; rfl
    by_cases h24 : l.length = 24
    · have HE := hid (show declE l s = 5 by unfold declE; rw [hi, h24]; rfl)
      have HR := hid (show Decl m (declR l s p) w by unfold declR; rw [HE.out]; exact trivial)
      have hd : decide ((l.length : Int) = 24) = true := decide_eq_true (by omega)
      clear hi
      go_enter Tryd.func58, Tryd.ntmps58
      go_wp2_with (first | (at_lookup; refine gm_look underNm rfl _ _ rfl m _ _ s rfl H.out rfl hsl ?_; rw [hF]) | (at_len; refine gm_len underNm rfl _ rfl m _ _ rfl H.out ?_) | fail)
      go_ret
      exact ⟨by rw [HE.out]; rfl, HR.out, HG.out⟩
    · have HE := hid (show declE l s = 0 by unfold declE; rw [hi, if_neg h24]; rfl)
      have hd : decide ((l.length : Int) = 24) = false := decide_eq_false (by omega)
      have hlm : l.length < maxLen := by unfold maxLen; omega
      have hwf : (Lit.int .i64 (l.length : Int)).wf = true := WalkArith.wf_i64 (by omega)
      have HI := hid hi
      clear hi
      go_enter Tryd.func58, Tryd.ntmps58
      go_wp2_with (first | (at_lookup; refine gm_look underNm rfl _ _ rfl m _ _ s rfl H.out rfl hsl ?_; rw [hF]) | (at_len; refine gm_len underNm rfl _ rfl m _ _ rfl H.out ?_) | (at_mapUpdate; refine gm_put underNm rfl _ _ _ rfl m _ _ s (l.length : Int) (by rfl) H.out hlm (by rfl) hsl (by rfl) hwf ?_; intro w1 hM1 g1; have M1 := hid hM1; have G1 := hid g1; clear hM1 g1) | fail)
      go_ret
      refine ⟨by rw [HE.out]; rfl, ?_, G1.out⟩
      unfold declR
      rw [HE.out, if_pos rfl]
      have := M1.out
      rw [idxF_some, HI.out] at this
      show MapN m (idxF (l ++ [s])) (l ++ [s]).length w1
      rw [List.length_append]
      exact mapN_ext this (idxF_snoc HI.out)

/-- a fault as a value -/
def fltV {α : Type} (x : Rz α) : Value := match x with | .ok _ => .agg #[.int .i64 0, .int .i64 0] | .bad p e => .agg #[.int .i64 p, .int .i64 e]
theorem ret_2 {fn : Func} {t : Tmp} (h : fn.results = #[.cell t 53]) {tmps : Array Value} {g : Nat} {w : World} {x y : Value} (ht : tmps.getD t undef = .pointer (some ⟨g, 0, none⟩))
    (c : w.cell? ⟨g, 0, none⟩ = some x ∧ w.cell? ⟨g, 1, none⟩ = some y) :
    (results fn tmps).run Tryd.prog w = .ok (.agg #[x, y]) w := by
  rw [Array.getD_eq_getD_getElem?] at ht
  simp [results, h, ht, go_sem, asAddr, c.1, c.2]
theorem found_calls (p e : Int) (w : World) : Calls Tryd.prog 22 #[.agg #[.int .i64 p, .int .i64 e]] w fun r w' => r = .returned (.bool (e != 0)) ∧ Below w.heap.size w w' := by
  go_enter Tryd.func22, Tryd.ntmps22
  go_wp2_with fail
  go_ret
  exact ⟨rfl, (Below.refl _ _).alloc (Nat.le_refl _) _⟩
theorem declR_len {l l' : List ByteArray} {s : ByteArray} {p : Int} (hl : l.length ≤ 24) (h : declR l s p = .ok l') : l'.length ≤ 24 := by
  unfold declR at h
  split at h
  · rename_i h0
    cases h
    unfold declE at h0
    rw [List.length_append]
    split at h0
    · cases h0
    · split at h0
      · cases h0
      · simp; omega
  · cases h
theorem nmAt_keep {m : Nat} {l : List ByteArray} {a c : World} (h : NmAt m l a) (hk : c.heap[m]? = a.heap[m]?) : NmAt m l c := mapN_keep h hk
theorem nmAt_lt {m : Nat} {l : List ByteArray} {w : World} (h : NmAt m l w) : m < w.heap.size := mapN_lt h
theorem strs_cellAt {B : Nat} {ao : Option Addr} {cap j : Nat} {l : List ByteArray} {s : ByteArray} {w : World} (h : StrsIn B (.slice ao l.length cap) l w) (hj : l[j]? = some s) : ∃ b off, ao = some ⟨b, off, none⟩ ∧ b < B ∧ w.cell? ⟨b, off + j, none⟩ = some (.string s) := by
  have hl : j < l.length := (List.getElem?_eq_some_iff.1 hj).1
  obtain ⟨ao', cap', e, h2⟩ := strsIn_cases h
  injection e with e1 e2 e3
  subst e1
  rcases h2 with rfl | ⟨b, off, rfl, hb, hs⟩
  · simp at hl
  · refine ⟨b, off, rfl, hb, ?_⟩
    rw [hs j hl]
    have := (List.getElem?_eq_some_iff.1 hj).2
    rw [this]

set_option maxHeartbeats 2000000 in
theorem params_calls {m B : Nat} {acc : List ByteArray} (t : Nd) (nv kv : Value) (w : World) (h : NmAt m acc w) (ha : acc.length ≤ 24) (hm : B ≤ m) (hN : NdIn B w t nv kv) (hB : B ≤ w.heap.size) (hsm : smallN t = true) :
    Calls Tryd.prog 74 #[.map (some m), .agg #[.int .i64 t.kind, .int .i64 t.op, .int .i64 t.num, .string t.str, nv, kv, .int .i64 t.pl]] w fun e w' =>
      e = .returned (fltV (parP t.pl t.names acc)) ∧ Decl m (parP t.pl t.names acc) w' ∧ Keep (fun b => b = m) w w' := by
  obtain ⟨k, o, n, s, ns, ks, p⟩ := t
  obtain ⟨hs1, hns, hnz, _⟩ := small_mk hsm
  obtain ⟨h1, h2⟩ := ndIn_mk.1 hN
  simp only [Nd.kind, Nd.op, Nd.num, Nd.str, Nd.pl, Nd.names]
  obtain ⟨na, nc, rfl, _⟩ := strsIn_cases h1
  obtain ⟨ka, kc, rfl, _⟩ := kidsIn_cases h2
  have hmw := nmAt_lt h
  have A1 := (Below.refl w.heap.size w).alloc (Nat.le_refl _) (Obj.cells #[.int .i64 k, .int .i64 o, .int .i64 n, .string s, .slice na ns.length nc, .slice ka ks.length kc, .int .i64 p] 25)
  have b1 := blk_new w 25 #[.int .i64 k, .int .i64 o, .int .i64 n, .string s, .slice na ns.length nc, .slice ka ks.length kc, .int .i64 p]
  generalize hW1 : w.alloc (Obj.cells #[.int .i64 k, .int .i64 o, .int .i64 n, .string s, .slice na ns.length nc, .slice ka ks.length kc, .int .i64 p] 25) = w1 at *
  have A2 := (Below.refl w1.heap.size w1).alloc (Nat.le_refl _) (Obj.cells #[.int .i64 0, .int .i64 0] 53)
  have b2 := blk_new w1 53 #[.int .i64 0, .int .i64 0]
  have b1' := blk_on b1 A2
  have hz1 : w1.heap.size = w.heap.size + 1 := by rw [← hW1]; simp
  rw [hz1] at b2
  have K2 : Keep (fun b => b = m) w (w1.alloc (Obj.cells #[.int .i64 0, .int .i64 0] 53)) := Keep.of (below_on A1 A2)
  have M2 : NmAt m acc (w1.alloc (Obj.cells #[.int .i64 0, .int .i64 0] 53)) := nmAt_keep h ((below_on A1 A2).block m hmw)
  have S2 := strsIn_on h1 ((below_on A1 A2).mono hB)
  generalize hW2 : w1.alloc (Obj.cells #[.int .i64 0, .int .i64 0] 53) = w2 at *
  have HB1 := hid b1'
  have HB2 := hid b2
  have HK2 := hid K2
  have HM2 := hid M2
  have HS2 := hid S2
  have n4 : w2.cell? ⟨w.heap.size, 4, none⟩ = some (.slice na ns.length nc) := by rw [blk_cell b1']; rfl
  clear h hN h1 h2 A1 A2 b1 b1' b2 K2 M2 S2 hsm
  go_enter Tryd.func74, Tryd.ntmps74
  go_wp2_with fail
  go_loopw [11] (fun i wr => ∃ (j : Nat) (acc' : List ByteArray), j ≤ ns.length ∧ i = .int .i64 j ∧ Hid (parP p ns acc = parP p (ns.drop j) acc') ∧ acc'.length ≤ 24 ∧ Hid (NmAt m acc' wr) ∧ Hid (Keep (fun b => b = m) w2 wr)) (fun i _ => ns.length - (intOf i).toNat)
  case atStart => exact ⟨0, acc, by omega, rfl, hid rfl, ha, HM2, hid (Keep.refl _ _)⟩
  case round =>
    obtain ⟨j, acc', hj, rfl, hP, ha', hM, hK⟩ := hrel
    have y1 := blk_keep HB1.out hK.out (by omega)
    have y2 := blk_keep HB2.out hK.out (by omega)
    have z0 : wr.cell? ⟨w.heap.size + 1, 0, none⟩ = some (.int .i64 0) := by rw [blk_cell y2]; rfl
    have z1 : wr.cell? ⟨w.heap.size + 1, 1, none⟩ = some (.int .i64 0) := by rw [blk_cell y2]; rfl
    have f0 : wr.frozen? ⟨w.heap.size + 1, 0, none⟩ = false := blk_free y2 0
    have f1 : wr.frozen? ⟨w.heap.size + 1, 1, none⟩ = false := blk_free y2 1
    by_cases hjl : j < ns.length
    · obtain ⟨x, hx⟩ : ∃ x, ns[j]? = some x := ⟨ns[j], List.getElem?_eq_getElem hjl⟩
      obtain ⟨b, off, rfl, hb, hc0⟩ := strs_cellAt HS2.out hx
      have c0 : wr.cell? ⟨b, off + j, none⟩ = some (.string x) := cellS_eq (hK.out.block b (by have := HK2.out.size; omega) (by omega)) hc0
      have hxz : x.size ≤ 1000000 := by have := hnz x (List.mem_of_getElem? hx); omega
      have HD := hid (declare_calls wr hM.out (by omega) x hxz p)
      have hdr : ns.drop j = x :: ns.drop (j + 1) := by rw [List.drop_eq_getElem_cons hjl]; congr 1; exact (List.getElem?_eq_some_iff.1 hx).2
      have HP2 := hid (hP.out.trans (by rw [hdr]; rfl : parP p (ns.drop j) acc' = (declR acc' x p).bind fun acc'' => parP p (ns.drop (j + 1)) acc''))
      have Y1 := hid y1
      have Y2 := hid y2
      clear hP hdr hc0 y1 y2 hx
      by_cases he : declE acc' x = 0
      · rw [he] at HD
        have HR := hid (show declR acc' x p = .ok (acc' ++ [x]) by unfold declR; rw [if_pos he])
        rw [HR.out] at HD HP2
        rw [Rz.bind_ok] at HP2
        have hl2 := declR_len ha' HR.out
        clear he
        go_wp2_with fail
        refine HD.out.mono ?_
        rintro e3 w3 ⟨rfl, m3, g3⟩
        have M3 := hid (show NmAt m (acc' ++ [x]) w3 from m3)
        have K3 := hid (hK.out.trans (Keep.grown (S := fun b => b = m) g3 (fun k e => by injection e with e; exact e.symm)) (fun _ _ h => h))
        clear m3 g3
        go_wp2_with fail
        exact ⟨⟨j + 1, acc' ++ [x], by omega, by simp, HP2, hl2, M3, K3⟩, by simp [intOf]; omega⟩
      · have HR := hid (show declR acc' x p = .bad p (declE acc' x) by unfold declR; rw [if_neg he])
        rw [HR.out] at HP2
        rw [Rz.bind_bad] at HP2
        generalize hE : declE acc' x = E at *
        have heb : (E != 0) = true := by rw [bne_iff_ne]; exact he
        go_wp2_with fail
        refine HD.out.mono ?_
        rintro e3 w3 ⟨rfl, _, g3⟩
        have k3 := Keep.grown (S := fun b => b = m) g3 (fun k e => by injection e with e; exact e.symm)
        have K3 := hid (HK2.out.trans (hK.out.trans k3 (fun _ _ h => h)) (fun _ _ h => h))
        have v1 := blk_keep Y1.out k3 (by omega)
        have v2 := blk_keep Y2.out k3 (by omega)
        have p6 : w3.cell? ⟨w.heap.size, 6, none⟩ = some (.int .i64 p) := by rw [blk_cell v1]; rfl
        have q0 : w3.cell? ⟨w.heap.size + 1, 0, none⟩ = some (.int .i64 0) := by rw [blk_cell v2]; rfl
        have q1 : w3.cell? ⟨w.heap.size + 1, 1, none⟩ = some (.int .i64 0) := by rw [blk_cell v2]; rfl
        have r0 : w3.frozen? ⟨w.heap.size + 1, 0, none⟩ = false := blk_free v2 0
        have r1 : w3.frozen? ⟨w.heap.size + 1, 1, none⟩ = false := blk_free v2 1
        have hns3 : w.heap.size + 1 ≠ m := by omega
        clear g3 k3 v1 v2 HD
        go_wp2_with fail
        refine bodyPost_ret (ret_2 (g := w.heap.size + 1) (x := .int .i64 p) (y := .int .i64 E) rfl rfl ⟨by go_simp, by go_simp⟩) rfl ⟨by rw [HP2.out]; rfl, by rw [HP2.out]; exact trivial, ?_⟩
        refine K3.out.trans (T := fun b => b = w.heap.size + 1) ?_ (fun i hi e => by omega)
        exact (Keep.set (S := fun b => b = w.heap.size + 1) rfl w3 0 _).trans (Keep.set (S := fun b => b = w.heap.size + 1) rfl _ 1 _) (fun _ _ h => h)
    · have hje : j = ns.length := by omega
      subst hje
      have HP2 := hid (hP.out.trans (by rw [List.drop_length]; rfl : parP p (ns.drop ns.length) acc' = .ok acc'))
      have Y2 := hid y2
      clear hP y1 y2
      go_wp2_with fail
      have KS := (Keep.set (S := fun b => b = w.heap.size + 1) rfl wr 0 (.int .i64 0)).trans (Keep.set (S := fun b => b = w.heap.size + 1) rfl (wr.setCell ⟨w.heap.size + 1, 0, none⟩ (.int .i64 0)) 1 (.int .i64 0)) (fun _ _ h => h)
      refine bodyPost_ret (ret_2 (g := w.heap.size + 1) (x := .int .i64 0) (y := .int .i64 0) rfl rfl ⟨by go_simp, by go_simp⟩) rfl ⟨by rw [HP2.out]; rfl, ?_, ?_⟩
      · rw [HP2.out]
        exact nmAt_keep hM.out (KS.block m (nmAt_lt hM.out) (by omega))
      · exact (HK2.out.trans hK.out (fun _ _ h => h)).trans KS (fun i hi e => by omega)

theorem kid_node {B : Nat} {ao : Option Addr} {cap j : Nat} {l : List Nd} {x : Nd} {w : World} (h : KidsIn B w (.slice ao l.length cap) l) (hj : l[j]? = some x) :
    ∃ b off a1 c1 a2 c2, ao = some ⟨b, off, none⟩ ∧ b < B ∧ NodeAt b (off + j * 7) x.kind x.op x.num x.str (.slice a1 x.names.length c1) (.slice a2 x.kids.length c2) x.pl w ∧ NdIn B w x (.slice a1 x.names.length c1) (.slice a2 x.kids.length c2) := by
  have hl : j < l.length := (List.getElem?_eq_some_iff.1 hj).1
  obtain ⟨ao', cap', e, h2⟩ := kidsIn_cases h
  injection e with e1 e2 e3
  subst e1
  rcases h2 with rfl | ⟨b, off, rfl, hb, hs⟩
  · simp at hl
  · obtain ⟨nv, kv, h3, h4⟩ := ndsAt_get hs j hl
    have e5 := (List.getElem?_eq_some_iff.1 hj).2
    rw [e5] at h3 h4
    obtain ⟨a1, c1, a2, c2, rfl, rfl⟩ := ndIn_shape h4
    exact ⟨b, off, a1, c1, a2, c2, rfl, hb, h3, h4⟩
theorem countL_len : ∀ l : List Nd, l.length ≤ countL l
  | [] => by simp [countL]
  | x :: r => by have := countL_len r; have := countN_pos x; simp only [countL, List.length_cons]; omega
theorem count_kids (x : Nd) : x.kids.length ≤ countN x := by
  obtain ⟨k, o, n, s, ns, ks, p⟩ := x
  have := countL_len ks
  simp only [Nd.kids, countN]; omega
/-- what lets is known of, at statements -/
def LetsAt (ks : List Nd) : Prop := ∀ (m B : Nat) (acc : List ByteArray) (kv : Value) (w : World), Hid (NmAt m acc w) → acc.length ≤ 24 → B ≤ m → Hid (KidsIn B w kv ks) → B ≤ w.heap.size → (∀ x ∈ ks, smallN x = true) → ks.length ≤ 1000000 →
  Calls Tryd.prog 37 #[.map (some m), kv] w fun e w' => e = .returned (fltV (letL ks acc)) ∧ Decl m (letL ks acc) w' ∧ (∀ l, letL ks acc = .ok l → l.length ≤ 24) ∧ Keep (fun b => b = m) w w'

set_option maxHeartbeats 4000000 in
theorem lets_of (ks : List Nd) (ih : ∀ x ∈ ks, LetsAt x.kids) (hcount : ∀ x ∈ ks, x.kids.length ≤ 1000000) : LetsAt ks := by
  intro m B acc kv w h ha hm hN hB hsm hf
  obtain ⟨ka, kc, rfl, _⟩ := kidsIn_cases hN.out
  have hmw := nmAt_lt h.out
  have A1 := (Below.refl w.heap.size w).alloc (Nat.le_refl _) (Obj.cells #[.int .i64 0, .int .i64 0] 53)
  have b1 := blk_new w 53 #[.int .i64 0, .int .i64 0]
  have HK1 := hid (show Keep (fun b => b = m) w (w.alloc (Obj.cells #[.int .i64 0, .int .i64 0] 53)) from Keep.of A1)
  have HM1 := hid (nmAt_keep h.out (A1.block m hmw))
  have HN1 := hid (kidsIn_on (A1.mono hB) hN.out)
  have HIH := hid ih
  have HSM := hid hsm
  have HCT := hid hcount
  generalize hW1 : w.alloc (Obj.cells #[.int .i64 0, .int .i64 0] 53) = w1 at *
  have hz1 : w1.heap.size = w.heap.size + 1 := by rw [← hW1]; simp
  have HB1 := hid b1
  clear h hN A1 b1 ih hsm hcount
  go_enter Tryd.func37, Tryd.ntmps37
  go_wp2_with fail
  go_loopw [10] (fun i wr => ∃ (j : Nat) (acc' : List ByteArray), j ≤ ks.length ∧ i = .int .i64 j ∧ Hid (letL ks acc = letL (ks.drop j) acc') ∧ acc'.length ≤ 24 ∧ Hid (NmAt m acc' wr) ∧ Hid (Keep (fun b => b = m) w1 wr)) (fun i _ => ks.length - (intOf i).toNat)
  case atStart => exact ⟨0, acc, by omega, rfl, hid rfl, ha, HM1, hid (Keep.refl _ _)⟩
  case round =>
    obtain ⟨j, acc', hj, rfl, hP, ha', hM, hK⟩ := hrel
    have y1 := blk_keep HB1.out hK.out (by omega)
    have hmr := nmAt_lt hM.out
    have hzr := hK.out.size
    by_cases hjl : j < ks.length
    · obtain ⟨x, hx⟩ : ∃ x, ks[j]? = some x := ⟨ks[j], List.getElem?_eq_getElem hjl⟩
      have HNr := kidsIn_on (hK.out.below (B := B) (by omega) (fun k e => by omega)) HN1.out
      obtain ⟨b, off, a1, c1, a2, c2, rfl, hb, hat, hin⟩ := kid_node HNr hx
      have hxm := List.mem_of_getElem? hx
      have hsx := HSM.out x hxm
      have hcx := HCT.out x hxm
      have hihx := HIH.out x hxm
      have hdr : ks.drop j = x :: ks.drop (j + 1) := by rw [List.drop_eq_getElem_cons hjl]; congr 1; exact (List.getElem?_eq_some_iff.1 hx).2
      have HP2 := hid (hP.out.trans (by rw [hdr, letL] : letL (ks.drop j) acc' = (letN x acc').bind fun acc'' => letL (ks.drop (j + 1)) acc''))
      obtain ⟨k, o, n, s, ns, ks', p⟩ := x
      obtain ⟨d0, d1, d2, d3, d4, d5, d6⟩ := hat
      simp only [Nd.kind, Nd.op, Nd.num, Nd.str, Nd.pl, Nd.names, Nd.kids] at d0 d1 d2 d3 d4 d5 d6 hin hcx hihx
      obtain ⟨hs6, _, _, hsk⟩ := small_mk hsx
      obtain ⟨_, hkin⟩ := ndIn_mk.1 hin
      have hbw : b < wr.heap.size := by omega
      have AX := (Below.refl wr.heap.size wr).alloc (Nat.le_refl _) (Obj.cells #[.int .i64 k, .int .i64 o, .int .i64 n, .string s, .slice a1 ns.length c1, .slice a2 ks'.length c2, .int .i64 p] 25)
      have bx := blk_new wr 25 #[.int .i64 k, .int .i64 o, .int .i64 n, .string s, .slice a1 ns.length c1, .slice a2 ks'.length c2, .int .i64 p]
      have hzx : (wr.alloc (Obj.cells #[.int .i64 k, .int .i64 o, .int .i64 n, .string s, .slice a1 ns.length c1, .slice a2 ks'.length c2, .int .i64 p] 25)).heap.size = wr.heap.size + 1 := by simp
      have AY := (Below.refl (wr.alloc (Obj.cells #[.int .i64 k, .int .i64 o, .int .i64 n, .string s, .slice a1 ns.length c1, .slice a2 ks'.length c2, .int .i64 p] 25)).heap.size (wr.alloc (Obj.cells #[.int .i64 k, .int .i64 o, .int .i64 n, .string s, .slice a1 ns.length c1, .slice a2 ks'.length c2, .int .i64 p] 25))).alloc (Nat.le_refl _) (Obj.cells #[.int .i64 0, .int .i64 0] 53)
      have by_ := blk_new (wr.alloc (Obj.cells #[.int .i64 k, .int .i64 o, .int .i64 n, .string s, .slice a1 ns.length c1, .slice a2 ks'.length c2, .int .i64 p] 25)) 53 #[.int .i64 0, .int .i64 0]
      rw [hzx] at by_
      have bx2 := blk_on bx AY
      have AXY := below_on AX AY
      have KY := hid (hK.out.trans (Keep.of (S := fun b => b = m) AXY) (fun _ _ h => h))
      have MY := hid (nmAt_keep hM.out (AXY.block m hmr))
      have HKin := hid (kidsIn_on (AXY.mono (by omega)) hkin)
      have BX2 := hid bx2
      have BY := hid by_
      have HZ := hid (show ((wr.alloc (Obj.cells #[.int .i64 k, .int .i64 o, .int .i64 n, .string s, .slice a1 ns.length c1, .slice a2 ks'.length c2, .int .i64 p] 25)).alloc (Obj.cells #[.int .i64 0, .int .i64 0] 53)).heap.size = wr.heap.size + 1 + 1 by simp)
      have HNr2 := hid HNr
      clear HNr hin hkin AX AY AXY bx bx2 by_ hP hM hK hdr hx y1 hzx
      rw [letN] at HP2
      by_cases h21 : k = 21
      · subst h21
        rw [if_pos rfl] at HP2
        go_wp2_with fail
        generalize (wr.alloc (Obj.cells #[.int .i64 21, .int .i64 o, .int .i64 n, .string s, .slice a1 ns.length c1, .slice a2 ks'.length c2, .int .i64 p] 25)).alloc (Obj.cells #[.int .i64 0, .int .i64 0] 53) = wy at *
        have hzy := HZ.out
        have x3 : wy.cell? ⟨wr.heap.size, 3, none⟩ = some (.string s) := by rw [blk_cell BX2.out]; rfl
        have x6 : wy.cell? ⟨wr.heap.size, 6, none⟩ = some (.int .i64 p) := by rw [blk_cell BX2.out]; rfl
        have HD := hid (declare_calls wy.drew (show NmAt m acc' wy.drew from nmAt_keep MY.out rfl) (by omega) s (by omega) p)
        refine wp_region_held_drew (S := fun a => a.cell? ⟨wr.heap.size, 3, none⟩ = some (.string s) ∧ a.cell? ⟨wr.heap.size, 6, none⟩ = some (.int .i64 p)) (by kernel_rfl) ⟨x3, x6⟩ (fun hHeld => ?_)
        refine tkk 0 ?_
        refine tkk 1 ?_
        refine tkk 2 ?_
        refine tkk 3 ?_
        refine tkk 4 ?_
        refine rdy 5 (fun K hK => ?_)
        have HKK := hid hK
        clear hK
        go_simp
        refine HD.out.mono ?_
        rintro e3 w3 ⟨rfl, m3, gr3⟩
        have k3 := Keep.grown (S := fun b => b = m) gr3 (fun k e => by injection e with e; exact e.symm)
        have K3 := hid (KY.out.trans ((Keep.drew (fun b => b = m) wy).trans k3 (fun _ _ h => h)) (fun _ _ h => h))
        have bx3 := blk_keep (show Blk wr.heap.size 25 _ wy.drew from BX2.out) k3 (by omega)
        have by3 := blk_keep (show Blk (wr.heap.size + 1) 53 _ wy.drew from BY.out) k3 (by omega)
        have s3 : w3.cell? ⟨wr.heap.size, 3, none⟩ = some (.string s) := by rw [blk_cell bx3]; rfl
        have s6 : w3.cell? ⟨wr.heap.size, 6, none⟩ = some (.int .i64 p) := by rw [blk_cell bx3]; rfl
        have t0 : w3.cell? ⟨wr.heap.size + 1, 0, none⟩ = some (.int .i64 0) := by rw [blk_cell by3]; rfl
        have t1 : w3.cell? ⟨wr.heap.size + 1, 1, none⟩ = some (.int .i64 0) := by rw [blk_cell by3]; rfl
        have v0 : w3.frozen? ⟨wr.heap.size + 1, 0, none⟩ = false := blk_free by3 0
        have v1 : w3.frozen? ⟨wr.heap.size + 1, 1, none⟩ = false := blk_free by3 1
        have BY3 := hid by3
        have M3 := hid m3
        refine HKK.out.out _ _ ⟨s3, s6⟩ (fun _ => ?_)
        clear HKK K bx3 by3 k3 gr3 m3 HD
        refine tkk 6 ?_
        refine rdy 7 (fun K hK => ?_)
        go_simp
        refine hK.out _ _ ?_ (fun _ => ?_)
        · refine ⟨?_, ?_⟩ <;> go_simp
        clear hK K
        refine wpAnyH_done (by kernel_rfl) ?_ _
        have F1 := blk_set (blk_set BY3.out 0 (.int .i64 p)) 1 (.int .i64 (declE acc' s))
        have KS1 := (Keep.set (S := fun b => b = wr.heap.size + 1) rfl w3 0 (.int .i64 p)).trans (Keep.set (S := fun b => b = wr.heap.size + 1) rfl (w3.setCell ⟨wr.heap.size + 1, 0, none⟩ (.int .i64 p)) 1 (.int .i64 (declE acc' s))) (fun _ _ h => h)
        have K4 := hid (K3.out.trans KS1 (fun i hi e => by omega))
        have hm3 : m < w3.heap.size := by have := K3.out.size; omega
        have hkm := hid (KS1.block m hm3 (by omega))
        have z0 : ((w3.setCell ⟨wr.heap.size + 1, 0, none⟩ (.int .i64 p)).setCell ⟨wr.heap.size + 1, 1, none⟩ (.int .i64 (declE acc' s))).cell? ⟨wr.heap.size + 1, 0, none⟩ = some (.int .i64 p) := by rw [blk_cell F1]; rfl
        have z1 : ((w3.setCell ⟨wr.heap.size + 1, 0, none⟩ (.int .i64 p)).setCell ⟨wr.heap.size + 1, 1, none⟩ (.int .i64 (declE acc' s))).cell? ⟨wr.heap.size + 1, 1, none⟩ = some (.int .i64 (declE acc' s)) := by rw [blk_cell F1]; rfl
        generalize hW4 : (w3.setCell ⟨wr.heap.size + 1, 0, none⟩ (.int .i64 p)).setCell ⟨wr.heap.size + 1, 1, none⟩ (.int .i64 (declE acc' s)) = w4 at *
        clear KS1
        by_cases he : declE acc' s = 0
        · have HR := hid (show declR acc' s p = .ok (acc' ++ [s]) by unfold declR; rw [if_pos he])
          rw [HR.out] at HP2 M3
          rw [Rz.bind_ok] at HP2
          have hl2 := declR_len ha' HR.out
          have M4 := hid (nmAt_keep (show NmAt m (acc' ++ [s]) w3 from M3.out) hkm.out)
          rw [he] at z1
          go_wp2_with fail
          refine (found_calls p 0 _).mono ?_
          rintro e9 w9 ⟨rfl, b9⟩
          have K9 := hid (K4.out.trans (Keep.of (S := fun b => b = m) b9) (fun _ _ h => h))
          have M9 := hid (nmAt_keep M4.out (b9.block m (nmAt_lt M4.out)))
          clear b9
          go_wp2_with fail
          exact ⟨⟨j + 1, acc' ++ [s], by omega, by simp, HP2, hl2, M9, K9⟩, by simp [intOf]; omega⟩
        · have HR := hid (show declR acc' s p = .bad p (declE acc' s) by unfold declR; rw [if_neg he])
          rw [HR.out] at HP2
          rw [Rz.bind_bad] at HP2
          generalize hE : declE acc' s = E at *
          have heb : (E != 0) = true := by rw [bne_iff_ne]; exact he
          go_wp2_with fail
          refine (found_calls p E _).mono ?_
          rintro e9 w9 ⟨rfl, b9⟩
          have K9 := hid (K4.out.trans (Keep.of (S := fun b => b = m) b9) (fun _ _ h => h))
          have u1 := blk_on F1 b9
          have u2 := blk_keep HB1.out K9.out (by omega)
          have t0 : w9.cell? ⟨wr.heap.size + 1, 0, none⟩ = some (.int .i64 p) := by rw [blk_cell u1]; rfl
          have t1 : w9.cell? ⟨wr.heap.size + 1, 1, none⟩ = some (.int .i64 E) := by rw [blk_cell u1]; rfl
          have q0 : w9.cell? ⟨w.heap.size, 0, none⟩ = some (.int .i64 0) := by rw [blk_cell u2]; rfl
          have q1 : w9.cell? ⟨w.heap.size, 1, none⟩ = some (.int .i64 0) := by rw [blk_cell u2]; rfl
          have r0 : w9.frozen? ⟨w.heap.size, 0, none⟩ = false := blk_free u2 0
          have r1 : w9.frozen? ⟨w.heap.size, 1, none⟩ = false := blk_free u2 1
          clear b9 u1 u2
          go_wp2_with fail
          have KS := (Keep.set (S := fun b => b = w.heap.size) rfl w9 0 (.int .i64 p)).trans (Keep.set (S := fun b => b = w.heap.size) rfl (w9.setCell ⟨w.heap.size, 0, none⟩ (.int .i64 p)) 1 (.int .i64 E)) (fun _ _ h => h)
          refine bodyPost_ret (ret_2 (g := w.heap.size) (x := .int .i64 p) (y := .int .i64 E) rfl rfl ⟨by go_simp, by go_simp⟩) rfl ⟨by rw [HP2.out]; rfl, by rw [HP2.out]; exact trivial, fun l hl => (by rw [HP2.out] at hl; cases hl), ?_⟩
          exact (HK1.out.trans K9.out (fun _ _ h => h)).trans KS (fun i hi e => by omega)
      · rw [if_neg h21] at HP2
        by_cases hin : k = 28 ∨ k = 29 ∨ k = 30
        · rw [if_pos hin] at HP2
          have HL := hid (hihx m B acc' _ ((wr.alloc (Obj.cells #[.int .i64 k, .int .i64 o, .int .i64 n, .string s, .slice a1 ns.length c1, .slice a2 ks'.length c2, .int .i64 p] 25)).alloc (Obj.cells #[.int .i64 0, .int .i64 0] 53)) MY ha' hm HKin (by rw [HZ.out]; omega) hsk hcx)
          cases hlk : letL ks' acc' with
          | bad fp fe =>
            rw [hlk] at HL HP2
            rw [Rz.bind_bad] at HP2
            have heb : (fe != 0) = true := by rw [bne_iff_ne]; exact letL_bad _ hlk
            unfold fltV at HL
            rcases hin with rfl | rfl | rfl
            all_goals
              go_wp2_with fail
              refine HL.out.mono ?_
              rintro e3 w3 ⟨rfl, m3, l3, k3⟩
              have by3 := blk_keep BY.out k3 (by omega)
              have K3 := hid (KY.out.trans k3 (fun _ _ h => h))
              have t0 : w3.cell? ⟨wr.heap.size + 1, 0, none⟩ = some (.int .i64 0) := by rw [blk_cell by3]; rfl
              have t1 : w3.cell? ⟨wr.heap.size + 1, 1, none⟩ = some (.int .i64 0) := by rw [blk_cell by3]; rfl
              have v0 : w3.frozen? ⟨wr.heap.size + 1, 0, none⟩ = false := blk_free by3 0
              have v1 : w3.frozen? ⟨wr.heap.size + 1, 1, none⟩ = false := blk_free by3 1
              have F1 := blk_set (blk_set by3 0 (.int .i64 fp)) 1 (.int .i64 fe)
              have KS1 := (Keep.set (S := fun b => b = wr.heap.size + 1) rfl w3 0 (.int .i64 fp)).trans (Keep.set (S := fun b => b = wr.heap.size + 1) rfl (w3.setCell ⟨wr.heap.size + 1, 0, none⟩ (.int .i64 fp)) 1 (.int .i64 fe)) (fun _ _ h => h)
              have K5 := hid (K3.out.trans KS1 (fun i hi e => by omega))
              have M3 := hid m3
              have L3 := hid l3
              have hm3 : m < w3.heap.size := by have := K3.out.size; omega
              have hkm := hid (KS1.block m hm3 (by omega))
              have zz := HZ.out
              clear KS1 k3 m3 l3 by3 HL
              go_wp2_with fail
              refine (found_calls fp fe _).mono ?_
              rintro e9 w9 ⟨rfl, b9⟩
              have K9 := hid (K5.out.trans (Keep.of (S := fun b => b = m) b9) (fun _ _ h => h))
              have u1 := blk_on F1 b9
              have u2 := blk_keep HB1.out K9.out (by omega)
              have t0 : w9.cell? ⟨wr.heap.size + 1, 0, none⟩ = some (.int .i64 fp) := by rw [blk_cell u1]; rfl
              have t1 : w9.cell? ⟨wr.heap.size + 1, 1, none⟩ = some (.int .i64 fe) := by rw [blk_cell u1]; rfl
              have q0 : w9.cell? ⟨w.heap.size, 0, none⟩ = some (.int .i64 0) := by rw [blk_cell u2]; rfl
              have q1 : w9.cell? ⟨w.heap.size, 1, none⟩ = some (.int .i64 0) := by rw [blk_cell u2]; rfl
              have r0 : w9.frozen? ⟨w.heap.size, 0, none⟩ = false := blk_free u2 0
              have r1 : w9.frozen? ⟨w.heap.size, 1, none⟩ = false := blk_free u2 1
              clear b9 u1 u2
              go_wp2_with fail
              have KS := (Keep.set (S := fun b => b = w.heap.size) rfl w9 0 (.int .i64 fp)).trans (Keep.set (S := fun b => b = w.heap.size) rfl (w9.setCell ⟨w.heap.size, 0, none⟩ (.int .i64 fp)) 1 (.int .i64 fe)) (fun _ _ h => h)
              refine bodyPost_ret (ret_2 (g := w.heap.size) (x := .int .i64 fp) (y := .int .i64 fe) rfl rfl ⟨by go_simp, by go_simp⟩) rfl ⟨by rw [HP2.out]; rfl, by rw [HP2.out]; exact trivial, fun l hl => (by rw [HP2.out] at hl; cases hl), ?_⟩
              exact (HK1.out.trans K9.out (fun _ _ h => h)).trans KS (fun i hi e => by omega)
          | ok l2 =>
            rw [hlk] at HL HP2
            rw [Rz.bind_ok] at HP2
            unfold fltV at HL
            rcases hin with rfl | rfl | rfl
            all_goals
              go_wp2_with fail
              refine HL.out.mono ?_
              rintro e3 w3 ⟨rfl, m3, l3, k3⟩
              have by3 := blk_keep BY.out k3 (by omega)
              have K3 := hid (KY.out.trans k3 (fun _ _ h => h))
              have t0 : w3.cell? ⟨wr.heap.size + 1, 0, none⟩ = some (.int .i64 0) := by rw [blk_cell by3]; rfl
              have t1 : w3.cell? ⟨wr.heap.size + 1, 1, none⟩ = some (.int .i64 0) := by rw [blk_cell by3]; rfl
              have v0 : w3.frozen? ⟨wr.heap.size + 1, 0, none⟩ = false := blk_free by3 0
              have v1 : w3.frozen? ⟨wr.heap.size + 1, 1, none⟩ = false := blk_free by3 1
              have F1 := blk_set (blk_set by3 0 (.int .i64 0)) 1 (.int .i64 0)
              have KS1 := (Keep.set (S := fun b => b = wr.heap.size + 1) rfl w3 0 (.int .i64 0)).trans (Keep.set (S := fun b => b = wr.heap.size + 1) rfl (w3.setCell ⟨wr.heap.size + 1, 0, none⟩ (.int .i64 0)) 1 (.int .i64 0)) (fun _ _ h => h)
              have K5 := hid (K3.out.trans KS1 (fun i hi e => by omega))
              have M3 := hid m3
              have L3 := hid l3
              have hm3 : m < w3.heap.size := by have := K3.out.size; omega
              have hkm := hid (KS1.block m hm3 (by omega))
              have zz := HZ.out
              clear KS1 k3 m3 l3 by3 HL
              go_wp2_with fail
              refine (found_calls 0 0 _).mono ?_
              rintro e9 w9 ⟨rfl, b9⟩
              have K9 := hid (K5.out.trans (Keep.of (S := fun b => b = m) b9) (fun _ _ h => h))
              have M4 := nmAt_keep (show NmAt m l2 w3 from M3.out) hkm.out
              have M9 := hid (nmAt_keep M4 (b9.block m (nmAt_lt M4)))
              clear b9 M4
              go_wp2_with fail
              exact ⟨⟨j + 1, l2, by omega, by simp, HP2, L3.out l2 rfl, M9, K9⟩, by simp [intOf]; omega⟩
        · rw [if_neg hin] at HP2
          rw [Rz.bind_ok] at HP2
          have d1' : decide (k = 28) = false := decide_eq_false (fun e => hin (.inl e))
          have d2' : decide (k = 29) = false := decide_eq_false (fun e => hin (.inr (.inl e)))
          have d3' : decide (k = 30) = false := decide_eq_false (fun e => hin (.inr (.inr e)))
          have n28 : k ≠ 28 := fun e => hin (.inl e)
          have n29 : k ≠ 29 := fun e => hin (.inr (.inl e))
          have n30 : k ≠ 30 := fun e => hin (.inr (.inr e))
          go_wp2_with fail
          refine (found_calls 0 0 _).mono ?_
          rintro e9 w9 ⟨rfl, b9⟩
          have K9 := hid (KY.out.trans (Keep.of (S := fun b => b = m) b9) (fun _ _ h => h))
          have M9 := hid (nmAt_keep MY.out (b9.block m (nmAt_lt MY.out)))
          clear b9
          go_wp2_with fail
          exact ⟨⟨j + 1, acc', by omega, by simp, HP2, ha', M9, K9⟩, by simp [intOf]; omega⟩
    · have hje : j = ks.length := by omega
      subst hje
      have HP2 := hid (hP.out.trans (by rw [List.drop_length, letL] : letL (ks.drop ks.length) acc' = .ok acc'))
      have z0 : wr.cell? ⟨w.heap.size, 0, none⟩ = some (.int .i64 0) := by rw [blk_cell y1]; rfl
      have z1 : wr.cell? ⟨w.heap.size, 1, none⟩ = some (.int .i64 0) := by rw [blk_cell y1]; rfl
      have f0 : wr.frozen? ⟨w.heap.size, 0, none⟩ = false := blk_free y1 0
      have f1 : wr.frozen? ⟨w.heap.size, 1, none⟩ = false := blk_free y1 1
      clear hP y1
      go_wp2_with fail
      have KS := (Keep.set (S := fun b => b = w.heap.size) rfl wr 0 (.int .i64 0)).trans (Keep.set (S := fun b => b = w.heap.size) rfl (wr.setCell ⟨w.heap.size, 0, none⟩ (.int .i64 0)) 1 (.int .i64 0)) (fun _ _ h => h)
      refine bodyPost_ret (ret_2 (g := w.heap.size) (x := .int .i64 0) (y := .int .i64 0) rfl rfl ⟨by go_simp, by go_simp⟩) rfl ⟨by rw [HP2.out]; rfl, ?_, ?_, ?_⟩
      · rw [HP2.out]
        exact nmAt_keep hM.out (KS.block m hmr (by omega))
      · intro l hl
        rw [HP2.out] at hl
        cases hl; exact ha'
      · exact (HK1.out.trans hK.out (fun _ _ h => h)).trans KS (fun i hi e => by omega)
theorem lets_calls (ks : List Nd) (hc : countL ks ≤ 1000000) : LetsAt ks := by
  have all : ∀ t : Nd, countN t ≤ 1000000 → LetsAt t.kids := by
    intro t
    refine Nd.ind (P := fun t => countN t ≤ 1000000 → LetsAt t.kids) ?_ t
    intro k o n s ns ks p ih hcn
    have h1 : countL ks ≤ 1000000 := by rw [countN] at hcn; omega
    refine lets_of ks (fun x hx => ih x hx (Nat.le_trans (count_mem hx) h1)) (fun x hx => ?_)
    have := count_mem hx
    have := count_kids x
    omega
  refine lets_of ks (fun x hx => all x (Nat.le_trans (count_mem hx) hc)) (fun x hx => ?_)
  have := count_mem hx
  have := count_kids x
  omega

end Go.Proofs.YtmihckhflbepjaaDoor
