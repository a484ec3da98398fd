/- What the program lays for nodes of their own ways. -/
import Derived.Test.YtgdbaceehpcgbaaDoorJoint16
namespace Go.Proofs.YtgdbaceehpcgbaaDoor
set_option linter.unusedSimpArgs false
open Go.RowKit

def KidAt (B b o : Nat) (x : Nd) (w : World) : Prop := ∃ a1 q1 a2 q2, NodeAt b o x.kind x.op x.num x.str (.slice a1 x.names.length q1) (.slice a2 x.kids.length q2) x.pl w ∧ NdIn B w x (.slice a1 x.names.length q1) (.slice a2 x.kids.length q2)
theorem kid_of {B b off i : Nat} {ks : List Nd} {x : Nd} {w : World} (h : NdsAt B w b ks off) (hx : ks[i]? = some x) : KidAt B b (off + i * 7) x w := by
  obtain ⟨hi, rfl⟩ := List.getElem?_eq_some_iff.1 hx
  obtain ⟨nv, kv, h1, h2⟩ := ndsAt_get h i hi
  obtain ⟨a1, q1, a2, q2, rfl, rfl⟩ := ndIn_shape h2
  exact ⟨a1, q1, a2, q2, h1, h2⟩
/-- the i-th kid is read in whatever comes later -/
theorem kid_on {B b off : Nat} {x : Nd} {a c : World} (h : KidAt B b off x a) (hb : b < B) (q : Below B a c) : KidAt B b off x c := by
  obtain ⟨a1, q1, a2, q2, h1, h2⟩ := h
  exact ⟨a1, q1, a2, q2, nodeAt_on h1 hb q, ndIn_on q _ _ _ h2⟩
/-- the two variables lie apart -/
def Off (T : Nat → Prop) (gl ga : Nat) : Prop := ¬ T gl ∧ ¬ T ga
theorem Off.up {T : Nat → Prop} {gl ga l i : Nat} {w : World} (h : Off T gl ga) (k : Hop gl ga l i w) : Off (Up T w) gl ga :=
  ⟨fun q => q.elim h.1 (by have := blk_lt k.1; omega), fun q => q.elim h.2 (by have := blk_lt k.2; omega)⟩
theorem Off.leap {T : Nat → Prop} {gl ga : Nat} (h : Off T gl ga) (g a : Nat) : Off (fun b => T b ∧ b ≠ g ∧ b ≠ a) gl ga := ⟨fun q => h.1 q.1, fun q => h.2 q.1⟩
theorem rm_put {S0 T : Nat → Prop} {W0 w : World} {l p i n d : Nat} {a : Int} {I : List In} {c : Cs} (_ : On S0 W0 l p (putA I i a) c T w) (r : Rm I c n d) : Rm (putA I i a) c n d := r.put i a
theorem leap_fresh {T : Nat → Prop} {w w' : World} {l p gl ga : Nat} {I : List In} {c : Cs} (_ : LyS (fun b => Up T w b ∧ b ≠ gl ∧ b ≠ ga) l p I c w') : Off (fun b => Up T w b ∧ b ≠ gl ∧ b ≠ ga) gl ga := ⟨fun q => q.2.1 rfl, fun q => q.2.2 rfl⟩

set_option maxHeartbeats 3200000 in
set_option maxRecDepth 100000 in
theorem either_of (x y : Nd) (HX : Hid (Lays x)) (HY : Hid (Lays y)) (k o n q : Int) (s : ByteArray) (op : Int) (hop : op = 24 ∨ op = 25) (S : Nat → Prop) (l p : Nat) (I : List In) (c : Cs) (B : Nat) (w : World) (nv kv : Value) (hB : Hid (B ≤ w.heap.size)) (hS : Hid (∀ b, S b → B ≤ b)) (hL : Hid (LyS S l p I c w)) (hnv : ∃ a m c, nv = .slice a m c) (hN : Hid (KidsIn B w kv [x, y])) (hR : Hid (Rm I c (countN x + countN y) 2)) :
    Calls Tryd.prog 68 #[.pointer (some ⟨l, 0, none⟩), .int .i64 op, .agg #[.int .i64 k, .int .i64 o, .int .i64 n, .string s, nv, kv, .int .i64 q]] w fun e w' => e = .returned (.tuple #[]) ∧ Gone S l p (joinC I (joinC (cN x c).1 (joinC [(op, 1 + ((cN y (cN x c).2).1.length : Int), 0)] (cN y (cN x c).2).1))) (cN y (cN x c).2).2 w w' := by
  have hgo : goB op = true := by rcases hop with rfl | rfl <;> decide
  obtain ⟨na, nm, nc, rfl⟩ := hnv
  obtain ⟨ao, cap, rfl, hks⟩ := kidsIn_cases hN.out
  obtain ⟨b, off, rfl, hbB, hat⟩ := hks.resolve_left (by simp)
  have XZ := kid_of (i := 0) hat rfl
  rw [Nat.zero_mul, Nat.add_zero] at XZ
  have YZ := kid_of (i := 1) hat rfl
  rw [Nat.one_mul] at YZ
  have h0 := hL.out.mono (T := fun b => S b ∧ b < w.heap.size) (fun b hb q => ⟨q, hb⟩)
  have hS0 : Hid (∀ b, (S b ∧ b < w.heap.size) → B ≤ b) := hid (fun b q => hS.out b q.1)
  have AB := hid ((Below.refl w.heap.size w).alloc (Nat.le_refl _) (.cells #[.int .i64 k, .int .i64 o, .int .i64 n, .string s, .slice na nm nc, .slice (some ⟨b, off, none⟩) [x, y].length cap, .int .i64 q] 47))
  have BX := hid (blk_new w 47 #[.int .i64 k, .int .i64 o, .int .i64 n, .string s, .slice na nm nc, .slice (some ⟨b, off, none⟩) [x, y].length cap, .int .i64 q])
  have O0 := hid (On.start (h0.on AB.out))
  generalize hW : w.alloc (.cells #[.int .i64 k, .int .i64 o, .int .i64 n, .string s, .slice na nm nc, .slice (some ⟨b, off, none⟩) [x, y].length cap, .int .i64 q] 47) = w0 at *
  have hB0 : Hid (B ≤ w0.heap.size) := hid (Nat.le_trans hB.out AB.out.size)
  have XK := hid (kid_on XZ hbB (AB.out.mono hB.out))
  have YK := hid (kid_on YZ hbB (AB.out.mono hB.out))
  have R0 := hR
  clear h0 hN hks hat XZ YZ
  simp only [List.length_cons, List.length_nil, Nat.zero_add, Nat.reduceAdd] at *
  go_enter Tryd.func68, Tryd.ntmps68
  have z5_0 : w0.cell? ⟨w.heap.size, 5, none⟩ = some (.slice (some ⟨b, off, none⟩) 2 cap) := blk_cellZ (blk_keep BX.out O0.out.keep (fun q => by have := q.2; omega)) 5 rfl
  obtain ⟨xa1, xq1, xa2, xq2, ⟨x0, x1, x2, x3, x4, x5, x6⟩, xin⟩ := kid_on XK.out hbB (O0.out.low hB0.out hS0.out)
  have XI := hid xin
  clear xin
  go_wp2_with fail
  refine (HX.out _ l p _ _ B w0 _ _ (hid (Nat.le_trans hB0.out O0.out.keep.size)) (hid (O0.out.lowT hB0.out hS0.out)) (hid O0.out.ly) XI (hid (R0.out.to (by omega) (by omega)))).mono ?_
  rintro e w1 ⟨rfl, g⟩
  have O1 := hid (O0.out.step g)
  have R1 := hid (Rm.node (t := x) (m := countN y) (d := 2) (R0.out.to (by omega) (by omega)))
  clear g x0 x1 x2 x3 x4 x5 x6 XI
  go_wp2_with fail
  refine (leap_calls w1 O1.out.ly (by have := R1.out.ins; omega) op).mono ?_
  rintro e w2 ⟨glA, gaA, rfl, _, _, h3, h4, h5⟩
  have O2 := hid (O1.out.leap h4 h5)
  have R2 := hid (Rm.one (n := countN y) (d := 2) (op, 0, 0) (R1.out.to (by omega) (by omega)))
  have HA2 := hid h3
  have NA2 := hid (leap_fresh h4)
  clear h3 h4 h5
  have z5_2 : w2.cell? ⟨w.heap.size, 5, none⟩ = some (.slice (some ⟨b, off, none⟩) 2 cap) := blk_cellZ (blk_keep BX.out O2.out.keep (fun q => by have := q.2; omega)) 5 rfl
  obtain ⟨ya1, yq1, ya2, yq2, ⟨y0, y1, y2, y3, y4, y5, y6⟩, yin⟩ := kid_on YK.out hbB (O2.out.low hB0.out hS0.out)
  have YI := hid yin
  clear yin
  go_wp2_with fail
  refine (HY.out _ l p _ _ B w2 _ _ (hid (Nat.le_trans hB0.out O2.out.keep.size)) (hid (O2.out.lowT hB0.out hS0.out)) (hid O2.out.ly) YI (hid (R2.out.to (by omega) (by omega)))).mono ?_
  rintro e w3 ⟨rfl, g⟩
  have O3 := hid (O2.out.step g)
  have R3 := hid (Rm.node (t := y) (m := 0) (d := 2) (R2.out.to (by omega) (by omega)))
  have NA3 := hid (NA2.out.up HA2.out)
  have HA3 := hid (HA2.out.keep g.2 NA2.out.1 NA2.out.2)
  clear g y0 y1 y2 y3 y4 y5 y6 YI
  go_wp2_with fail
  refine (hop_calls w3 O3.out.ly HA3.out (by simp only [join_len, putA_len, List.length_append, List.length_cons, List.length_nil]; omega) (by have := R3.out.ins; omega)).mono ?_
  rintro e w4 ⟨rfl, g1, g2⟩
  have O4 := hid (O3.out.hop g1 g2)
  have R4 := hid (rm_put O4.out R3.out)
  clear g1 g2
  go_wp2_with fail
  go_end0
  rw [← join_assoc, ← fill_either hgo _ _ rfl rfl]
  exact ⟨rfl, O4.out.fin AB.out (fun b q => q.1)⟩
set_option maxHeartbeats 3200000 in
set_option maxRecDepth 100000 in
theorem choice_of (x y z : Nd) (HX : Hid (Lays x)) (HY : Hid (Lays y)) (HZ : Hid (Lays z)) (k o n q : Int) (s : ByteArray) (S : Nat → Prop) (l p : Nat) (I : List In) (c : Cs) (B : Nat) (w : World) (nv kv : Value) (hB : Hid (B ≤ w.heap.size)) (hS : Hid (∀ b, S b → B ≤ b)) (hL : Hid (LyS S l p I c w)) (hnv : ∃ a m c, nv = .slice a m c) (hN : Hid (KidsIn B w kv [x, y, z])) (hR : Hid (Rm I c (countN x + countN y + countN z) 3)) :
    Calls Tryd.prog 70 #[.pointer (some ⟨l, 0, none⟩), .agg #[.int .i64 k, .int .i64 o, .int .i64 n, .string s, nv, kv, .int .i64 q]] w fun e w' => e = .returned (.tuple #[]) ∧ Gone S l p (joinC I (joinC (cN x c).1 (joinC [(23, 2 + ((cN y (cN x c).2).1.length : Int), 0)] (joinC (cN y (cN x c).2).1 (joinC [(22, 1 + ((cN z (cN y (cN x c).2).2).1.length : Int), 0)] (cN z (cN y (cN x c).2).2).1))))) (cN z (cN y (cN x c).2).2).2 w w' := by
  obtain ⟨na, nm, nc, rfl⟩ := hnv
  obtain ⟨ao, cap, rfl, hks⟩ := kidsIn_cases hN.out
  obtain ⟨b, off, rfl, hbB, hat⟩ := hks.resolve_left (by simp)
  have XZ := kid_of (i := 0) hat rfl
  rw [Nat.zero_mul, Nat.add_zero] at XZ
  have YZ := kid_of (i := 1) hat rfl
  rw [Nat.one_mul] at YZ
  have ZZ := kid_of (i := 2) hat rfl
  rw [show 2 * 7 = 14 from rfl] at ZZ
  have h0 := hL.out.mono (T := fun b => S b ∧ b < w.heap.size) (fun b hb q => ⟨q, hb⟩)
  have hS0 : Hid (∀ b, (S b ∧ b < w.heap.size) → B ≤ b) := hid (fun b q => hS.out b q.1)
  have AB := hid ((Below.refl w.heap.size w).alloc (Nat.le_refl _) (.cells #[.int .i64 k, .int .i64 o, .int .i64 n, .string s, .slice na nm nc, .slice (some ⟨b, off, none⟩) [x, y, z].length cap, .int .i64 q] 47))
  have BX := hid (blk_new w 47 #[.int .i64 k, .int .i64 o, .int .i64 n, .string s, .slice na nm nc, .slice (some ⟨b, off, none⟩) [x, y, z].length cap, .int .i64 q])
  have O0 := hid (On.start (h0.on AB.out))
  generalize hW : w.alloc (.cells #[.int .i64 k, .int .i64 o, .int .i64 n, .string s, .slice na nm nc, .slice (some ⟨b, off, none⟩) [x, y, z].length cap, .int .i64 q] 47) = w0 at *
  have hB0 : Hid (B ≤ w0.heap.size) := hid (Nat.le_trans hB.out AB.out.size)
  have XK := hid (kid_on XZ hbB (AB.out.mono hB.out))
  have YK := hid (kid_on YZ hbB (AB.out.mono hB.out))
  have ZK := hid (kid_on ZZ hbB (AB.out.mono hB.out))
  have R0 := hR
  clear h0 hN hks hat XZ YZ ZZ
  simp only [List.length_cons, List.length_nil, Nat.zero_add, Nat.reduceAdd] at *
  go_enter Tryd.func70, Tryd.ntmps70
  have z5_0 : w0.cell? ⟨w.heap.size, 5, none⟩ = some (.slice (some ⟨b, off, none⟩) 3 cap) := blk_cellZ (blk_keep BX.out O0.out.keep (fun q => by have := q.2; omega)) 5 rfl
  obtain ⟨xa1, xq1, xa2, xq2, ⟨x0, x1, x2, x3, x4, x5, x6⟩, xin⟩ := kid_on XK.out hbB (O0.out.low hB0.out hS0.out)
  have XI := hid xin
  clear xin
  go_wp2_with fail
  refine (HX.out _ l p _ _ B w0 _ _ (hid (Nat.le_trans hB0.out O0.out.keep.size)) (hid (O0.out.lowT hB0.out hS0.out)) (hid O0.out.ly) XI (hid (R0.out.to (by omega) (by omega)))).mono ?_
  rintro e w1 ⟨rfl, g⟩
  have O1 := hid (O0.out.step g)
  have R1 := hid (Rm.node (t := x) (m := countN y + countN z) (d := 3) (R0.out.to (by omega) (by omega)))
  clear g x0 x1 x2 x3 x4 x5 x6 XI
  go_wp2_with fail
  refine (leap_calls w1 O1.out.ly (by have := R1.out.ins; omega) 23).mono ?_
  rintro e w2 ⟨glA, gaA, rfl, _, _, h3, h4, h5⟩
  have O2 := hid (O1.out.leap h4 h5)
  have R2 := hid (Rm.one (n := countN y + countN z) (d := 3) (23, 0, 0) (R1.out.to (by omega) (by omega)))
  have HA2 := hid h3
  have NA2 := hid (leap_fresh h4)
  clear h3 h4 h5
  have z5_2 : w2.cell? ⟨w.heap.size, 5, none⟩ = some (.slice (some ⟨b, off, none⟩) 3 cap) := blk_cellZ (blk_keep BX.out O2.out.keep (fun q => by have := q.2; omega)) 5 rfl
  obtain ⟨ya1, yq1, ya2, yq2, ⟨y0, y1, y2, y3, y4, y5, y6⟩, yin⟩ := kid_on YK.out hbB (O2.out.low hB0.out hS0.out)
  have YI := hid yin
  clear yin
  go_wp2_with fail
  refine (HY.out _ l p _ _ B w2 _ _ (hid (Nat.le_trans hB0.out O2.out.keep.size)) (hid (O2.out.lowT hB0.out hS0.out)) (hid O2.out.ly) YI (hid (R2.out.to (by omega) (by omega)))).mono ?_
  rintro e w3 ⟨rfl, g⟩
  have O3 := hid (O2.out.step g)
  have R3 := hid (Rm.node (t := y) (m := countN z) (d := 3) (R2.out.to (by omega) (by omega)))
  have NA3 := hid (NA2.out.up HA2.out)
  have HA3 := hid (HA2.out.keep g.2 NA2.out.1 NA2.out.2)
  clear g y0 y1 y2 y3 y4 y5 y6 YI
  go_wp2_with fail
  refine (leap_calls w3 O3.out.ly (by have := R3.out.ins; omega) 22).mono ?_
  rintro e w4 ⟨glB, gaB, rfl, _, _, h3, h4, h5⟩
  have O4 := hid (O3.out.leap h4 h5)
  have R4 := hid (Rm.one (n := countN z) (d := 3) (22, 0, 0) (R3.out.to (by omega) (by omega)))
  have NA4 := hid ((NA3.out.up HA3.out).leap glB gaB)
  have HA4 := hid (HA3.out.keep h5 NA3.out.1 NA3.out.2)
  have HB4 := hid h3
  have NB4 := hid (leap_fresh h4)
  clear h3 h4 h5
  go_wp2_with fail
  refine (hop_calls w4 O4.out.ly HA4.out (by simp only [join_len, putA_len, List.length_append, List.length_cons, List.length_nil]; omega) (by have := R4.out.ins; omega)).mono ?_
  rintro e w5 ⟨rfl, g1, g2⟩
  have O5 := hid (O4.out.hop g1 g2)
  have R5 := hid (rm_put O5.out R4.out)
  have NB5 := NB4
  have HB5 := hid (HB4.out.keep g2 NB4.out.1 NB4.out.2)
  clear g1 g2
  have z5_5 : w5.cell? ⟨w.heap.size, 5, none⟩ = some (.slice (some ⟨b, off, none⟩) 3 cap) := blk_cellZ (blk_keep BX.out O5.out.keep (fun q => by have := q.2; omega)) 5 rfl
  obtain ⟨za1, zq1, za2, zq2, ⟨z0, z1, z2, z3, z4, z5, z6⟩, zin⟩ := kid_on ZK.out hbB (O5.out.low hB0.out hS0.out)
  have ZI := hid zin
  clear zin
  go_wp2_with fail
  refine (HZ.out _ l p _ _ B w5 _ _ (hid (Nat.le_trans hB0.out O5.out.keep.size)) (hid (O5.out.lowT hB0.out hS0.out)) (hid O5.out.ly) ZI (hid (R5.out.to (by omega) (by omega)))).mono ?_
  rintro e w6 ⟨rfl, g⟩
  have O6 := hid (O5.out.step g)
  have R6 := hid (Rm.node (t := z) (m := 0) (d := 3) (R5.out.to (by omega) (by omega)))
  have NB6 := hid (NB5.out.up HB5.out)
  have HB6 := hid (HB5.out.keep g.2 NB5.out.1 NB5.out.2)
  clear g z0 z1 z2 z3 z4 z5 z6 ZI
  go_wp2_with fail
  refine (hop_calls w6 O6.out.ly HB6.out (by simp only [join_len, putA_len, List.length_append, List.length_cons, List.length_nil]; omega) (by have := R6.out.ins; omega)).mono ?_
  rintro e w7 ⟨rfl, g1, g2⟩
  have O7 := hid (O6.out.hop g1 g2)
  have R7 := hid (rm_put O7.out R6.out)
  clear g1 g2
  go_wp2_with fail
  go_end0
  rw [← join_assoc, ← fill_if (joinC I (cN x c).1) (cN y (cN x c).2).1 (cN z (cN y (cN x c).2).2).1 (i := (joinC I (cN x c).1).length) (j := (joinC (joinC I (cN x c).1 ++ [(23, 0, 0)]) (cN y (cN x c).2).1).length) (t := ((joinC (joinC I (cN x c).1 ++ [(23, 0, 0)]) (cN y (cN x c).2).1 ++ [(22, 0, 0)]).length : Int)) (u := ((joinC (putA (joinC (joinC I (cN x c).1 ++ [(23, 0, 0)]) (cN y (cN x c).2).1 ++ [(22, 0, 0)]) (joinC I (cN x c).1).length ((joinC (joinC I (cN x c).1 ++ [(23, 0, 0)]) (cN y (cN x c).2).1 ++ [(22, 0, 0)]).length : Int)) (cN z (cN y (cN x c).2).2).1).length : Int)) rfl (by simp [join_len] <;> omega) (by simp [join_len] <;> omega) (by simp [join_len, putA_len] <;> omega)]
  exact ⟨rfl, O7.out.fin AB.out (fun b q => q.1)⟩
set_option maxHeartbeats 3200000 in
set_option maxRecDepth 100000 in
theorem loop_of (x y : Nd) (HX : Hid (Lays x)) (HY : Hid (Lays y)) (k o n q : Int) (s : ByteArray) (S : Nat → Prop) (l p : Nat) (I : List In) (c : Cs) (B : Nat) (w : World) (nv kv : Value) (hB : Hid (B ≤ w.heap.size)) (hS : Hid (∀ b, S b → B ≤ b)) (hL : Hid (LyS S l p I c w)) (hnv : ∃ a m c, nv = .slice a m c) (hN : Hid (KidsIn B w kv [x, y])) (hR : Hid (Rm I c (countN x + countN y) 3)) :
    Calls Tryd.prog 71 #[.pointer (some ⟨l, 0, none⟩), .agg #[.int .i64 k, .int .i64 o, .int .i64 n, .string s, nv, kv, .int .i64 q]] w fun e w' => e = .returned (.tuple #[]) ∧ Gone S l p (joinC I (joinC (cN x c).1 (joinC [(23, 2 + ((cN y (cN x c).2).1.length : Int), 0)] (joinC (cN y (cN x c).2).1 [(22, -(((cN x c).1.length : Int) + 1 + ((cN y (cN x c).2).1.length : Int)), 0)])))) (cN y (cN x c).2).2 w w' := by
  obtain ⟨na, nm, nc, rfl⟩ := hnv
  obtain ⟨ao, cap, rfl, hks⟩ := kidsIn_cases hN.out
  obtain ⟨b, off, rfl, hbB, hat⟩ := hks.resolve_left (by simp)
  have XZ := kid_of (i := 0) hat rfl
  rw [Nat.zero_mul, Nat.add_zero] at XZ
  have YZ := kid_of (i := 1) hat rfl
  rw [Nat.one_mul] at YZ
  have h0 := hL.out.mono (T := fun b => S b ∧ b < w.heap.size) (fun b hb q => ⟨q, hb⟩)
  have hS0 : Hid (∀ b, (S b ∧ b < w.heap.size) → B ≤ b) := hid (fun b q => hS.out b q.1)
  have AB := hid ((Below.refl w.heap.size w).alloc (Nat.le_refl _) (.cells #[.int .i64 k, .int .i64 o, .int .i64 n, .string s, .slice na nm nc, .slice (some ⟨b, off, none⟩) [x, y].length cap, .int .i64 q] 47))
  have BX := hid (blk_new w 47 #[.int .i64 k, .int .i64 o, .int .i64 n, .string s, .slice na nm nc, .slice (some ⟨b, off, none⟩) [x, y].length cap, .int .i64 q])
  have O0 := hid (On.start (h0.on AB.out))
  generalize hW : w.alloc (.cells #[.int .i64 k, .int .i64 o, .int .i64 n, .string s, .slice na nm nc, .slice (some ⟨b, off, none⟩) [x, y].length cap, .int .i64 q] 47) = w0 at *
  have hB0 : Hid (B ≤ w0.heap.size) := hid (Nat.le_trans hB.out AB.out.size)
  have XK := hid (kid_on XZ hbB (AB.out.mono hB.out))
  have YK := hid (kid_on YZ hbB (AB.out.mono hB.out))
  have R0 := hR
  clear h0 hN hks hat XZ YZ
  simp only [List.length_cons, List.length_nil, Nat.zero_add, Nat.reduceAdd] at *
  obtain ⟨lv, hly⟩ := O0.out.ly
  obtain ⟨lo, lc, rfl⟩ := row_shape hly.row
  have l1 : w0.cell? ⟨l, 1, none⟩ = some (.slice lo I.length lc) := blk_cellZ hly.blk 1 rfl
  clear hly
  go_enter Tryd.func71, Tryd.ntmps71
  have z5_0 : w0.cell? ⟨w.heap.size, 5, none⟩ = some (.slice (some ⟨b, off, none⟩) 2 cap) := blk_cellZ (blk_keep BX.out O0.out.keep (fun q => by have := q.2; omega)) 5 rfl
  obtain ⟨xa1, xq1, xa2, xq2, ⟨x0, x1, x2, x3, x4, x5, x6⟩, xin⟩ := kid_on XK.out hbB (O0.out.low hB0.out hS0.out)
  have XI := hid xin
  clear xin
  go_wp2_with fail
  refine (HX.out _ l p _ _ B w0 _ _ (hid (Nat.le_trans hB0.out O0.out.keep.size)) (hid (O0.out.lowT hB0.out hS0.out)) (hid O0.out.ly) XI (hid (R0.out.to (by omega) (by omega)))).mono ?_
  rintro e w1 ⟨rfl, g⟩
  have O1 := hid (O0.out.step g)
  have R1 := hid (Rm.node (t := x) (m := countN y) (d := 3) (R0.out.to (by omega) (by omega)))
  clear g x0 x1 x2 x3 x4 x5 x6 XI
  go_wp2_with fail
  refine (leap_calls w1 O1.out.ly (by have := R1.out.ins; omega) 23).mono ?_
  rintro e w2 ⟨glA, gaA, rfl, _, _, h3, h4, h5⟩
  have O2 := hid (O1.out.leap h4 h5)
  have R2 := hid (Rm.one (n := countN y) (d := 3) (23, 0, 0) (R1.out.to (by omega) (by omega)))
  have HA2 := hid h3
  have NA2 := hid (leap_fresh h4)
  clear h3 h4 h5
  have z5_2 : w2.cell? ⟨w.heap.size, 5, none⟩ = some (.slice (some ⟨b, off, none⟩) 2 cap) := blk_cellZ (blk_keep BX.out O2.out.keep (fun q => by have := q.2; omega)) 5 rfl
  obtain ⟨ya1, yq1, ya2, yq2, ⟨y0, y1, y2, y3, y4, y5, y6⟩, yin⟩ := kid_on YK.out hbB (O2.out.low hB0.out hS0.out)
  have YI := hid yin
  clear yin
  go_wp2_with fail
  refine (HY.out _ l p _ _ B w2 _ _ (hid (Nat.le_trans hB0.out O2.out.keep.size)) (hid (O2.out.lowT hB0.out hS0.out)) (hid O2.out.ly) YI (hid (R2.out.to (by omega) (by omega)))).mono ?_
  rintro e w3 ⟨rfl, g⟩
  have O3 := hid (O2.out.step g)
  have R3 := hid (Rm.node (t := y) (m := 0) (d := 3) (R2.out.to (by omega) (by omega)))
  have NA3 := hid (NA2.out.up HA2.out)
  have HA3 := hid (HA2.out.keep g.2 NA2.out.1 NA2.out.2)
  clear g y0 y1 y2 y3 y4 y5 y6 YI
  go_wp2_with fail
  refine (lay_calls w3 O3.out.ly (by have := R3.out.ins; omega) 22 (I.length : Int)).mono ?_
  rintro e w4 ⟨rfl, g⟩
  have O4 := hid (O3.out.step g)
  have R4 := hid (Rm.one (n := 0) (d := 3) (22, (I.length : Int), 0) (R3.out.to (by omega) (by omega)))
  have NA4 := hid (NA3.out.up HA3.out)
  have HA4 := hid (HA3.out.keep g.2 NA3.out.1 NA3.out.2)
  clear g
  go_wp2_with fail
  refine (hop_calls w4 O4.out.ly HA4.out (by simp only [join_len, putA_len, List.length_append, List.length_cons, List.length_nil]; omega) (by have := R4.out.ins; omega)).mono ?_
  rintro e w5 ⟨rfl, g1, g2⟩
  have O5 := hid (O4.out.hop g1 g2)
  have R5 := hid (rm_put O5.out R4.out)
  clear g1 g2
  go_wp2_with fail
  go_end0
  rw [← fill_while I (cN x c).1 (cN y (cN x c).2).1 (i := (joinC I (cN x c).1).length) (g := (I.length : Int)) (join_len _ _) rfl (t := ((joinC (joinC I (cN x c).1 ++ [(23, 0, 0)]) (cN y (cN x c).2).1 ++ [(22, (I.length : Int), 0)]).length : Int)) (by simp [join_len] <;> omega)]
  exact ⟨rfl, O5.out.fin AB.out (fun b q => q.1)⟩

end Go.Proofs.YtgdbaceehpcgbaaDoor
