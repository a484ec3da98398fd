/- What the program lays for a method's call, for an object, and for any node. -/
import Derived.Test.YtgdbaceehpcgbaaDoorCpWays
import Derived.Lib.SliceRun
namespace Go.Proofs.YtgdbaceehpcgbaaDoor
set_option linter.unusedSimpArgs false
open Go.RowKit

theorem kids_tail {B b off cap : Nat} {x : Nd} {r : List Nd} {w : World} (hb : b < B) (h : NdsAt B w b (x :: r) off) (hc : (x :: r).length ≤ cap) : KidsIn B w (.slice (some ⟨b, off + 7, none⟩) r.length (cap - 1)) r := by
  obtain ⟨k, o, n, s, ns, ks, p⟩ := x
  rw [NdsAt] at h
  exact .inr ⟨b, off + 7, cap - 1, rfl, hb, h.2, by simp at hc; omega⟩
theorem kids_zero {B c : Nat} {a : Option Addr} {r : List Nd} {w : World} (h : r.length = 0) : KidsIn B w (.slice a r.length c) r := .inl ⟨a, c, by rw [h], List.length_eq_zero_iff.1 h⟩

set_option maxHeartbeats 3200000 in
set_option maxRecDepth 100000 in
theorem method_of (x : Nd) (r : List Nd) (HX : Hid (Lays x)) (HR : Hid (∀ y ∈ r, Lays y)) (k o n q : Int) (s : ByteArray) (hs : s.size ≤ maxLen) (S : Nat → Prop) (l p : Nat) (I : List In) (c : Cs) (B : Nat) (w : World) (nv kv : Value) (hB : Hid (B ≤ w.heap.size)) (hS : Hid (∀ b, S b → B ≤ b)) (hL : Hid (LyS S l p I c w)) (hnv : ∃ a m c, nv = .slice a m c) (hN : Hid (KidsIn B w kv (x :: r))) (hR : Hid (Rm I c (countN x + countL r) 3)) :
    Calls Tryd.prog 69 #[.pointer (some ⟨l, 0, none⟩), .agg #[.int .i64 k, .int .i64 o, .int .i64 n, .string s, nv, kv, .int .i64 q]] w fun e w' => e = .returned (.tuple #[]) ∧ Gone S l p (joinC I (joinC (cN x c).1 (joinC [(siteC 27 s (cN x c).2).1] (joinC (kN r (siteC 27 s (cN x c).2).2).1 [(28, ((x :: r).length : Int) - 1, 0)])))) (kN r (siteC 27 s (cN x c).2).2).2 w w' := by
  obtain ⟨na, nm, nc, rfl⟩ := hnv
  obtain ⟨b, off, cap, rfl, hbB, hat, hcap⟩ := hN.out.resolve_left (fun ⟨_, _, _, h⟩ => by cases h)
  have XZ := kid_of (i := 0) hat rfl
  rw [Nat.zero_mul, Nat.add_zero] at XZ
  have h0 := hL.out.mono (T := fun b => S b ∧ b < w.heap.size) (fun b hb q => ⟨q, hb⟩)
  have hS0 : Hid (∀ b, (S b ∧ b < w.heap.size) → B ≤ b) := hid (fun b q => hS.out b q.1)
  have AB := hid ((Below.refl w.heap.size w).alloc (Nat.le_refl _) (.cells #[.int .i64 k, .int .i64 o, .int .i64 n, .string s, .slice na nm nc, .slice (some ⟨b, off, none⟩) (x :: r).length cap, .int .i64 q] 47))
  have BX := hid (blk_new w 47 #[.int .i64 k, .int .i64 o, .int .i64 n, .string s, .slice na nm nc, .slice (some ⟨b, off, none⟩) (x :: r).length cap, .int .i64 q])
  have O0 := hid (On.start (h0.on AB.out))
  generalize hW : w.alloc (.cells #[.int .i64 k, .int .i64 o, .int .i64 n, .string s, .slice na nm nc, .slice (some ⟨b, off, none⟩) (x :: r).length cap, .int .i64 q] 47) = w0 at *
  have hB0 : Hid (B ≤ w0.heap.size) := hid (Nat.le_trans hB.out AB.out.size)
  have XK := hid (kid_on XZ hbB (AB.out.mono hB.out))
  have RK := hid (kidsIn_on (AB.out.mono hB.out) (kids_tail hbB hat hcap))
  have R0 := hR
  have hrl : r.length ≤ 300000 := by have h1 := length_count r; have := hR.out.ins; omega
  have HC := hid hcap
  have hc1 : (x :: r).length ≤ cap := hcap
  clear h0 hN hat XZ hcap
  simp only [List.length_cons] at *
  have wr : IntKind.i64.wrap (((r.length + 1 : Nat) : Int) - 1) = (r.length : Int) := by rw [IntKind.wrap_i64]; omega
  go_enter Tryd.func69, Tryd.ntmps69
  have z5_0 : w0.cell? ⟨w.heap.size, 5, none⟩ = some (.slice (some ⟨b, off, none⟩) (r.length + 1) cap) := blk_cellZ (blk_keep BX.out O0.out.keep (fun q => by have := q.2; omega)) 5 rfl
  obtain ⟨xa1, xq1, xa2, xq2, ⟨x0, x1, x2, x3, x4, x5, x6⟩, xin⟩ := kid_on XK.out hbB (O0.out.low hB0.out hS0.out)
  have XI := hid xin
  clear xin
  go_wp2_with fail
  refine (HX.out _ l p _ _ B w0 _ _ (hid (Nat.le_trans hB0.out O0.out.keep.size)) (hid (O0.out.lowT hB0.out hS0.out)) (hid O0.out.ly) XI (hid (R0.out.to (by omega) (by omega)))).mono ?_
  rintro e w1 ⟨rfl, g⟩
  have O1 := hid (O0.out.step g)
  have R1 := hid (Rm.node (t := x) (m := countL r) (d := 3) (R0.out.to (by omega) (by omega)))
  clear g x0 x1 x2 x3 x4 x5 x6 XI
  have z3_1 : w1.cell? ⟨w.heap.size, 3, none⟩ = some (.string s) := blk_cellZ (blk_keep BX.out O1.out.keep (fun q => by have := q.2; omega)) 3 rfl
  go_wp2_with fail
  refine (laySite_calls w1 O1.out.ly (by have := R1.out.ins; omega) (by have := R1.out.txt; omega) R1.out.lo (by have := R1.out.hi; omega) 27 s hs).mono ?_
  rintro e w2 ⟨rfl, g⟩
  have O2 := hid (O1.out.step g)
  have R2 := hid (Rm.site (n := countL r) (d := 3) (siteC 27 s (cN x c).2).1 27 s (R1.out.to (by omega) (by omega)))
  clear g
  have z5_2 : w2.cell? ⟨w.heap.size, 5, none⟩ = some (.slice (some ⟨b, off, none⟩) (r.length + 1) cap) := blk_cellZ (blk_keep BX.out O2.out.keep (fun q => by have := q.2; omega)) 5 rfl
  go_wp2_with fail
  all_goals
    refine (nodes_of r HR _ l p _ _ B w2 _ (hid (Nat.le_trans hB0.out O2.out.keep.size)) (hid (O2.out.lowT hB0.out hS0.out)) (hid O2.out.ly) (hid (by first | exact kids_zero (by omega) | exact kidsIn_on (O2.out.low hB0.out hS0.out) RK.out)) (hid (R2.out.to (by omega) (by omega)))).mono ?_
    rintro e w3 ⟨rfl, g⟩
    have O3 := hid (O2.out.step g)
    have R3 := hid (Rm.many (ks := r) (m := 0) (d := 3) (R2.out.to (by omega) (by omega)))
    clear g
    have z5_3 : w3.cell? ⟨w.heap.size, 5, none⟩ = some (.slice (some ⟨b, off, none⟩) (r.length + 1) cap) := blk_cellZ (blk_keep BX.out O3.out.keep (fun q => by have := q.2; omega)) 5 rfl
    go_wp2_with fail
    refine (lay_calls w3 O3.out.ly (by have := R3.out.ins; omega) 28 (r.length : Int)).mono ?_
    rintro e w4 ⟨rfl, g⟩
    have O4 := hid (O3.out.step g)
    clear g
    go_wp2_with fail
    go_end0
    have E : joinC I (joinC (cN x c).1 (joinC [(siteC 27 s (cN x c).2).1] (joinC (kN r (siteC 27 s (cN x c).2).2).1 [(28, ((r.length + 1 : Nat) : Int) - 1, 0)]))) = joinC (joinC I (cN x c).1 ++ [(siteC 27 s (cN x c).2).1]) (kN r (siteC 27 s (cN x c).2).2).1 ++ [(28, (r.length : Int), 0)] := by
      rw [← join_assoc, ← join_assoc, ← join_assoc, join_one (show goB (siteC 27 s (cN x c).2).1.1 = false by rfl), join_one (by rfl), show ((r.length + 1 : Nat) : Int) - 1 = (r.length : Int) by omega]
    rw [E]
    exact ⟨rfl, O4.out.fin AB.out (fun b q => q.1)⟩
set_option maxHeartbeats 3200000 in
set_option maxRecDepth 100000 in
theorem object_of (ks : List Nd) (ns : List ByteArray) (HK : Hid (∀ x ∈ ks, Lays x)) (hns : ks.length = ns.length) (hsz : ∀ m ∈ ns, m.size ≤ maxLen) (k o n q : Int) (s : ByteArray) (S : Nat → Prop) (l p : Nat) (I : List In) (c : Cs) (B : Nat) (w : World) (nv kv : Value) (hB : Hid (B ≤ w.heap.size)) (hS : Hid (∀ b, S b → B ≤ b)) (hL : Hid (LyS S l p I c w)) (hV : Hid (StrsIn B nv ns w)) (hN : Hid (KidsIn B w kv ks)) (hR : Hid (Rm I c (countL ks) 3)) :
    Calls Tryd.prog 67 #[.pointer (some ⟨l, 0, none⟩), .agg #[.int .i64 k, .int .i64 o, .int .i64 n, .string s, nv, kv, .int .i64 q]] w fun e w' => e = .returned (.tuple #[]) ∧ Gone S l p (joinC I (joinC [(12, 0, 0)] (allC (cK 7 s ns ks 0 c).1))) (cK 7 s ns ks 0 c).2 w w' := by
  obtain ⟨na, nc, rfl, hnn⟩ := strsIn_cases hV.out
  obtain ⟨ao, cap, rfl, hks⟩ := kidsIn_cases hN.out
  have KS := hid hks
  have NS := hid hnn
  have h0 := hL.out.mono (T := fun b => S b ∧ b < w.heap.size) (fun b hb q => ⟨q, hb⟩)
  have hS0 : Hid (∀ b, (S b ∧ b < w.heap.size) → B ≤ b) := hid (fun b q => hS.out b q.1)
  have AB := hid ((Below.refl w.heap.size w).alloc (Nat.le_refl _) (.cells #[.int .i64 k, .int .i64 o, .int .i64 n, .string s, .slice na ns.length nc, .slice ao ks.length cap, .int .i64 q] 47))
  have BX := hid (blk_new w 47 #[.int .i64 k, .int .i64 o, .int .i64 n, .string s, .slice na ns.length nc, .slice ao ks.length cap, .int .i64 q])
  have O0 := hid (On.start (h0.on AB.out))
  generalize hW : w.alloc (.cells #[.int .i64 k, .int .i64 o, .int .i64 n, .string s, .slice na ns.length nc, .slice ao ks.length cap, .int .i64 q] 47) = w0 at *
  have hB0 : Hid (B ≤ w0.heap.size) := hid (Nat.le_trans hB.out AB.out.size)
  have hlen : ks.length ≤ 1000000 := by
    have h1 := length_count ks
    have := hR.out.ins
    omega
  have R0 := hR
  have HNS := hid hns
  have HSZ := hid hsz
  have hE : joinC I (joinC [(12, 0, 0)] (allC (cK 7 s ns ks 0 c).1)) = joinC (I ++ [(12, 0, 0)]) (allC (cK 7 s (ns.drop 0) (ks.drop 0) 0 c).1) := by rw [← join_assoc, join_one (by rfl)]; rfl
  have hE' : (cK 7 s ns ks 0 c).2 = (cK 7 s (ns.drop 0) (ks.drop 0) 0 c).2 := rfl
  rw [hE, hE']
  generalize hF : joinC (I ++ [(12, 0, 0)]) (allC (cK 7 s (ns.drop 0) (ks.drop 0) 0 c).1) = F
  generalize hG : (cK 7 s (ns.drop 0) (ks.drop 0) 0 c).2 = G
  have HF := hid hF
  have HG := hid hG
  clear hks hnn h0 hN hV hF hG hE hE' hns hsz
  go_enter Tryd.func67, Tryd.ntmps67
  go_wp2_with fail
  refine (lay_calls w0 O0.out.ly (by have := R0.out.ins; omega) 12 0).mono ?_
  rintro e w1 ⟨rfl, g⟩
  have O1 := hid (O0.out.step g)
  have R1 := hid (Rm.one (n := countL ks) (d := 2) (12, 0, 0) (R0.out.to (by omega) (by omega)))
  clear g
  have z5 : w1.cell? ⟨w.heap.size, 5, none⟩ = some (.slice ao ks.length cap) := blk_cellZ (blk_keep BX.out O1.out.keep (fun q => by have := q.2; omega)) 5 rfl
  go_wp2_with fail
  clear z5
  go_loopw [11] (fun i wr => ∃ (j : Nat) (J : List In) (d : Cs) (T : Nat → Prop), j ≤ ks.length ∧ i = .int .i64 j ∧ On (fun b => S b ∧ b < w.heap.size) w0 l p J d T wr ∧ Rm J d (countL (ks.drop j)) 2 ∧ joinC J (allC (cK 7 s (ns.drop j) (ks.drop j) j d).1) = F ∧ (cK 7 s (ns.drop j) (ks.drop j) j d).2 = G) (fun i _ => ks.length - (intOf i).toNat)
  case atStart => exact ⟨0, _, c, _, Nat.zero_le _, rfl, O1.out, R1.out, HF.out, HG.out⟩
  case round =>
    obtain ⟨j, J, d, T, hj, rfl, hO, hRm, hE1, hE2⟩ := hrel
    by_cases hjl : j < ks.length
    · obtain ⟨b, off, rfl, hbB, hat⟩ := KS.out.resolve_left (fun h => by rw [h] at hjl; cases hjl)
      have hjn : j < ns.length := by rw [← HNS.out]; exact hjl
      obtain ⟨nb, noff, rfl, hnB, hnat⟩ := NS.out.resolve_left (fun h => by rw [h] at hjn; cases hjn)
      obtain ⟨nv', kv', hnode, hin⟩ := ndsAt_get hat j hjl
      have hb' := (AB.out.mono hB.out).trans (hO.low hB0.out hS0.out)
      obtain ⟨c0, c1, c2, c3, c4, c5, c6⟩ := nodeAt_on hnode hbB hb'
      have hin' := ndIn_on hb' _ _ _ hin
      have ih := HK.out ks[j] (List.getElem_mem hjl)
      have hd : ks.drop j = ks[j] :: ks.drop (j + 1) := List.drop_eq_getElem_cons hjl
      have hd' : ns.drop j = ns[j] :: ns.drop (j + 1) := List.drop_eq_getElem_cons hjn
      have hms : ns[j].size ≤ maxLen := HSZ.out _ (List.getElem_mem hjn)
      have hnc := hnat j hjn
      rw [hd] at hRm hE1 hE2
      rw [hd', cK_obj] at hE1 hE2
      simp only [allC] at hE1
      simp only at hE2
      rw [← join_assoc, ← join_assoc, join_one (show goB (siteC 13 ns[j] (cN ks[j] d).2).1.1 = false by rfl)] at hE1
      rw [countL] at hRm
      generalize ks[j] = x at *
      generalize ns[j] = m at *
      have hsz := hO.keep.size
      have hwr : B ≤ wr.heap.size := Nat.le_trans hB0.out hsz
      obtain ⟨a1, q1, a2, q2, rfl, rfl⟩ := ndIn_shape hin
      have IH := hid ih
      have HO := hid hO
      have N := hid hin'
      have E1 := hid hE1
      have E2 := hid hE2
      have RM := hid hRm
      have NC := hid hnc
      have hnw : nb < w.heap.size := Nat.lt_of_lt_of_le hnB hB.out
      have hbw : b < wr.heap.size := by omega
      clear hin hin' hnode hat hnat hb' ih KS NS HK hO hE1 hE2 hRm hd hd' hnc
      have AR := hid ((Below.refl wr.heap.size wr).alloc (Nat.le_refl _) (.cells #[.int .i64 x.kind, .int .i64 x.op, .int .i64 x.num, .string x.str, .slice a1 x.names.length q1, .slice a2 x.kids.length q2, .int .i64 x.pl] 47))
      have HO2 := hid (HO.out.on AR.out)
      go_wp2_with fail
      refine (IH.out T l p J d B _ _ _ (hid (by simp; omega)) (hid (HO2.out.lowT hB0.out hS0.out)) (hid HO2.out.ly) (hid (ndIn_on (AR.out.mono hwr) _ _ _ N.out)) (hid (RM.out.to (by omega) (by omega)))).mono ?_
      rintro e w2 ⟨rfl, g1⟩
      have O2 := hid (HO2.out.step g1)
      have R2 := hid (Rm.node (t := x) (m := countL (ks.drop (j + 1))) (d := 2) RM.out)
      clear g1 c0 c1 c2 c3 c4 c5 c6
      have y4 : w2.cell? ⟨w.heap.size, 4, none⟩ = some (.slice (some ⟨nb, noff, none⟩) ns.length nc) := blk_cellZ (blk_keep BX.out O2.out.keep (fun q => by have := q.2; omega)) 4 rfl
      have yn : w2.cell? ⟨nb, noff + j, none⟩ = some (.string m) := ((AB.out.mono hB.out).trans (O2.out.low hB0.out hS0.out)).cell (p := ⟨nb, noff + j, none⟩) hnB |>.trans NC.out
      go_wp2_with fail
      refine (laySite_calls w2 O2.out.ly (by have := R2.out.ins; omega) (by have := R2.out.txt; omega) R2.out.lo (by have := R2.out.hi; omega) 13 m hms).mono ?_
      rintro e w3 ⟨rfl, g1⟩
      have O3 := hid (O2.out.step g1)
      have R3 := hid (Rm.site (n := countL (ks.drop (j + 1))) (d := 2) (siteC 13 m (cN x d).2).1 13 m R2.out)
      clear g1 y4 yn
      go_wp2_with fail
      go_roundw
      case rel => exact ⟨j + 1, _, _, _, by omega, by go_num, O3.out, R3.out, E1.out, E2.out⟩
      case measure => simp [intOf]; omega
    · have e : ks.drop j = [] := List.drop_eq_nil_iff.2 (by omega)
      rw [e, cK] at hE1 hE2
      simp only [allC, join_nil] at hE1 hE2
      have HO := hid hO
      have E1 := hid hE1
      have E2 := hid hE2
      clear hO hE1 hE2 KS NS e hRm
      go_wp2_with fail
      go_end0
      exact ⟨rfl, E1.out ▸ E2.out ▸ HO.out.fin AB.out (fun b q => q.1)⟩


end Go.Proofs.YtgdbaceehpcgbaaDoor
