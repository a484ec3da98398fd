/- What the program lays for any right node. -/
import Derived.Test.YtgdbaceehpcgbaaDoorCpWays2
namespace Go.Proofs.YtgdbaceehpcgbaaDoor
set_option linter.unusedSimpArgs false
open Go.RowKit

theorem kids_right {bb : Bds} {k : Int} : ∀ {ks : List Nd} {i : Nat}, rightDL bb ks k i = true → ∀ x ∈ ks, ∃ a, rightD bb x a = true
  | [], _, _, x, hx => by cases hx
  | y :: r, i, h, x, hx => by
    rw [rightDL, Bool.and_eq_true] at h
    rcases List.mem_cons.1 hx with rfl | hx
    · exact ⟨_, h.1⟩
    · exact kids_right h.2 x hx
theorem many_le {k o : Int} {m c : Nat} (h : manyD k o m c = true) (ho : opD k o = true) (h7 : k ≠ 7) : c ≤ 40 := by
  by_cases h17 : k = 17
  · subst h17
    have hr : 1 ≤ o ∧ o ≤ 7 := by simpa [opD] using ho
    have hb := (built_many hr).2
    have : c = (builtT o).2 := by simpa [manyD] using h
    omega
  · unfold manyD at h
    rw [if_neg h7, if_neg h17] at h
    repeat' split at h
    all_goals first | (simp at h; omega) | cases h
theorem str_le {k : Int} {s : ByteArray} (h : strD k s = true) : s.size ≤ 256 := by
  unfold strD at h
  split at h
  · exact cname_short h
  · split at h
    · simpa using h
    · have := of_decide_eq_true h; omega
theorem join_plain {A B : List In} (h : ∀ x ∈ B, goB x.1 = false) : joinC A B = A ++ B := by
  unfold joinC
  congr 1
  exact (List.map_congr_left fun x hx => move_arg (h x hx)).trans (List.map_id _)
theorem end_goes {k o n : Int} {s : ByteArray} {m : Nat} {c : Cs} : ∀ x ∈ (endC k o n s m c).1, goB x.1 = false := by
  have key : ∀ (p : Prop) [Decidable p] (a b : List In × Cs), (∀ x ∈ a.1, goB x.1 = false) → (∀ x ∈ b.1, goB x.1 = false) → ∀ x ∈ (if p then a else b).1, goB x.1 = false := by
    intro p _ a b h1 h2
    split <;> assumption
  have h1 : ∀ x : In, goB x.1 = false → ∀ y ∈ [x], goB y.1 = false := fun x hx y hy => by rw [List.mem_singleton.1 hy]; exact hx
  unfold endC
  repeat (refine key _ _ _ (h1 _ (by rfl)) ?_)
  intro x hx
  cases hx
set_option maxHeartbeats 3200000 in
set_option maxRecDepth 100000 in
theorem lplain_of (k o n q : Int) (s : ByteArray) (ns : List ByteArray) (ks : List Nd) (hk : k ≠ 7 ∧ k ≠ 11 ∧ k ≠ 12 ∧ k ≠ 16 ∧ k ≠ 28 ∧ k ≠ 30) (hE : endK k) (HK : Hid (∀ x ∈ ks, Lays x)) (hs : s.size ≤ maxLen) (hm : ks.length ≤ 1000) (S : Nat → Prop) (l p : Nat) (I : List In) (c : Cs) (B : Nat) (w : World) (nv kv : Value) (hB : Hid (B ≤ w.heap.size)) (hS : Hid (∀ b, S b → B ≤ b)) (hL : Hid (LyS S l p I c w)) (hV : Hid (StrsIn B nv ns w)) (hN : Hid (KidsIn B w kv ks)) (hR : Hid (Rm I c (countL ks + 1) 0)) :
    Calls Tryd.prog 52 #[.pointer (some ⟨l, 0, none⟩), .agg #[.int .i64 k, .int .i64 o, .int .i64 n, .string s, nv, kv, .int .i64 q]] w fun e w' => e = .returned (.tuple #[]) ∧ Gone S l p (joinC I (joinC [(1, 1, 0)] (backC k o n s ks c).1)) (backC k o n s ks c).2 w w' := by
  obtain ⟨na, nc, rfl, _⟩ := strsIn_cases hV.out
  obtain ⟨ao, cap, rfl, _⟩ := kidsIn_cases hN.out
  obtain ⟨k1, k2, k3, k4, k5, k6⟩ := hk
  have e1 : (k == 7) = false := by simpa using k1
  have e2 : (k == 11) = false := by simpa using k2
  have e3 : (k == 12) = false := by simpa using k3
  have e4 : (k == 16) = false := by simpa using k4
  have e5 : (k == 28) = false := by simpa using k5
  have e6 : (k == 30) = false := by simpa using k6
  have h0 := hL.out.mono (T := fun b => S b ∧ b < w.heap.size) (fun b hb q => ⟨q, hb⟩)
  have hS0 : Hid (∀ b, (S b ∧ b < w.heap.size) → B ≤ b) := hid (fun b q => hS.out b q.1)
  have AB := hid ((Below.refl w.heap.size w).alloc (Nat.le_refl _) (.cells #[.int .i64 k, .int .i64 o, .int .i64 n, .string s, .slice na ns.length nc, .slice ao ks.length cap, .int .i64 q] 47))
  have BX := hid (blk_new w 47 #[.int .i64 k, .int .i64 o, .int .i64 n, .string s, .slice na ns.length nc, .slice ao ks.length cap, .int .i64 q])
  have O0 := hid (On.start (h0.on AB.out))
  generalize hW : w.alloc (.cells #[.int .i64 k, .int .i64 o, .int .i64 n, .string s, .slice na ns.length nc, .slice ao ks.length cap, .int .i64 q] 47) = w0 at *
  have hB0 : Hid (B ≤ w0.heap.size) := hid (Nat.le_trans hB.out AB.out.size)
  have R0 := hR
  have HE := hid hE
  clear h0 hE
  go_enter Tryd.func52, Tryd.ntmps52
  go_wp2_with fail
  refine (lay_calls w0 O0.out.ly (by have := R0.out.ins; omega) 1 1).mono ?_
  rintro e w1 ⟨rfl, g⟩
  have O1 := hid (O0.out.step g)
  have R1 := hid (Rm.one (n := countL ks) (d := 3) (1, 1, 0) (R0.out.to (by omega) (by omega)))
  clear g
  have B1 := hid (blk_keep BX.out O1.out.keep (fun q => by have := q.2; omega))
  have z0 : w1.cell? ⟨w.heap.size, 0, none⟩ = some (.int .i64 k) := blk_cellZ B1.out 0 rfl
  have z5 : w1.cell? ⟨w.heap.size, 5, none⟩ = some (.slice ao ks.length cap) := blk_cellZ B1.out 5 rfl
  go_wp2_with fail
  refine (nodes_of ks HK _ l p _ _ B w1 _ (hid (Nat.le_trans hB0.out O1.out.keep.size)) (hid (O1.out.lowT hB0.out hS0.out)) (hid O1.out.ly) (hid (kidsIn_on ((AB.out.mono hB.out).trans (O1.out.low hB0.out hS0.out)) hN.out)) (hid (R1.out.to (by omega) (by omega)))).mono ?_
  rintro e w2 ⟨rfl, g⟩
  have O2 := hid (O1.out.step g)
  have R2 := hid (Rm.many (ks := ks) (m := 0) (d := 1) (R1.out.to (by omega) (by omega)))
  clear g z0 z5
  have B2 := hid (blk_keep BX.out O2.out.keep (fun q => by have := q.2; omega))
  have y0 : w2.cell? ⟨w.heap.size, 0, none⟩ = some (.int .i64 k) := blk_cellZ B2.out 0 rfl
  have y1 : w2.cell? ⟨w.heap.size, 1, none⟩ = some (.int .i64 o) := blk_cellZ B2.out 1 rfl
  have y2 : w2.cell? ⟨w.heap.size, 2, none⟩ = some (.int .i64 n) := blk_cellZ B2.out 2 rfl
  have y3 : w2.cell? ⟨w.heap.size, 3, none⟩ = some (.string s) := blk_cellZ B2.out 3 rfl
  have y4 : w2.cell? ⟨w.heap.size, 4, none⟩ = some (.slice na ns.length nc) := blk_cellZ B2.out 4 rfl
  have y5 : w2.cell? ⟨w.heap.size, 5, none⟩ = some (.slice ao ks.length cap) := blk_cellZ B2.out 5 rfl
  have y6 : w2.cell? ⟨w.heap.size, 6, none⟩ = some (.int .i64 q) := blk_cellZ B2.out 6 rfl
  go_wp2_with fail
  refine (behind_calls w2 O2.out.ly (by have := R2.out.ins; omega) k o n q s _ ao hm HE.out (by have := R2.out.txt; omega) R2.out.lo (by have := R2.out.hi; omega) hs ⟨_, _, _, rfl⟩).mono ?_
  rintro e w3 ⟨rfl, g⟩
  have O3 := hid (O2.out.step g)
  clear g
  go_wp2_with fail
  go_end0
  rw [← join_assoc, join_one (by rfl)]
  unfold backC
  rw [← join_assoc, join_plain end_goes]
  exact ⟨rfl, O3.out.fin AB.out (fun b q => q.1)⟩
set_option maxHeartbeats 3200000 in
set_option maxRecDepth 100000 in
theorem node_7 (o n q : Int) (s : ByteArray) (ns : List ByteArray) (ks : List Nd) (HK : Hid (∀ x ∈ ks, Lays x)) (HNS : Hid (ks.length = ns.length)) (hsz : ∀ m ∈ ns, m.size ≤ maxLen) (S : Nat → Prop) (l p : Nat) (I : List In) (c : Cs) (B : Nat) (w : World) (nv kv : Value) (hB : Hid (B ≤ w.heap.size)) (hS : Hid (∀ b, S b → B ≤ b)) (hL : Hid (LyS S l p I c w)) (hV : Hid (StrsIn B nv ns w)) (hN : Hid (KidsIn B w kv ks)) (hR : Hid (Rm I c (countL ks + 1) 0)) :
    Calls Tryd.prog 52 #[.pointer (some ⟨l, 0, none⟩), .agg #[.int .i64 7, .int .i64 o, .int .i64 n, .string s, nv, kv, .int .i64 q]] w fun e w' => e = .returned (.tuple #[]) ∧ Gone S l p (joinC I (cN (.mk 7 o n s ns ks q) c).1) (cN (.mk 7 o n s ns ks q) c).2 w w' := by
  obtain ⟨na, nc, rfl, _⟩ := strsIn_cases hV.out
  obtain ⟨ao, cap, rfl, _⟩ := kidsIn_cases hN.out
  have h0 := hL.out.mono (T := fun b => S b ∧ b < w.heap.size) (fun b hb q => ⟨q, hb⟩)
  have hS0 : Hid (∀ b, (S b ∧ b < w.heap.size) → B ≤ b) := hid (fun b q => hS.out b q.1)
  have AB := hid ((Below.refl w.heap.size w).alloc (Nat.le_refl _) (.cells #[.int .i64 7, .int .i64 o, .int .i64 n, .string s, .slice na ns.length nc, .slice ao ks.length cap, .int .i64 q] 47))
  have BX := hid (blk_new w 47 #[.int .i64 7, .int .i64 o, .int .i64 n, .string s, .slice na ns.length nc, .slice ao ks.length cap, .int .i64 q])
  have O0 := hid (On.start (h0.on AB.out))
  generalize hW : w.alloc (.cells #[.int .i64 7, .int .i64 o, .int .i64 n, .string s, .slice na ns.length nc, .slice ao ks.length cap, .int .i64 q] 47) = w0 at *
  have hB0 : Hid (B ≤ w0.heap.size) := hid (Nat.le_trans hB.out AB.out.size)
  have R0 := hR
  clear h0
  rw [cN_obj]
  simp only [List.length_cons, List.length_nil, Nat.zero_add, Nat.reduceAdd] at *
  go_enter Tryd.func52, Tryd.ntmps52
  go_wp2_with fail
  refine (lay_calls w0 O0.out.ly (by have := R0.out.ins; omega) 1 1).mono ?_
  rintro e w1 ⟨rfl, g⟩
  have O1 := hid (O0.out.step g)
  have R1 := hid (Rm.one (n := countL ks) (d := 3) (1, 1, 0) (R0.out.to (by omega) (by omega)))
  clear g
  have B2 := hid (blk_keep BX.out O1.out.keep (fun q => by have := q.2; omega))
  have y0 : w1.cell? ⟨w.heap.size, 0, none⟩ = some (.int .i64 7) := blk_cellZ B2.out 0 rfl
  have y1 : w1.cell? ⟨w.heap.size, 1, none⟩ = some (.int .i64 o) := blk_cellZ B2.out 1 rfl
  have y2 : w1.cell? ⟨w.heap.size, 2, none⟩ = some (.int .i64 n) := blk_cellZ B2.out 2 rfl
  have y3 : w1.cell? ⟨w.heap.size, 3, none⟩ = some (.string s) := blk_cellZ B2.out 3 rfl
  have y4 : w1.cell? ⟨w.heap.size, 4, none⟩ = some (.slice na ns.length nc) := blk_cellZ B2.out 4 rfl
  have y5 : w1.cell? ⟨w.heap.size, 5, none⟩ = some (.slice ao ks.length cap) := blk_cellZ B2.out 5 rfl
  have y6 : w1.cell? ⟨w.heap.size, 6, none⟩ = some (.int .i64 q) := blk_cellZ B2.out 6 rfl
  have LB := hid ((AB.out.mono hB.out).trans (O1.out.low hB0.out hS0.out))
  go_wp2_with fail
  refine (object_of ks ns HK HNS.out hsz 7 o n q s _ l p _ _ B w1 _ _ (hid (Nat.le_trans hB0.out O1.out.keep.size)) (hid (O1.out.lowT hB0.out hS0.out)) (hid O1.out.ly) (hid (strsIn_on hV.out LB.out)) (hid (kidsIn_on LB.out hN.out)) (hid (R1.out.to (by omega) (by omega)))).mono ?_
  rintro e w3 ⟨rfl, g⟩
  have O3 := hid (O1.out.step g)
  clear g
  go_wp2_with fail
  go_end0
  rw [← join_assoc, join_one (by rfl)]
  exact ⟨rfl, O3.out.fin AB.out (fun b q => q.1)⟩
set_option maxHeartbeats 3200000 in
set_option maxRecDepth 100000 in
theorem node_11 (o n q : Int) (s : ByteArray) (ns : List ByteArray) (x y : Nd) (HX : Hid (Lays x)) (HY : Hid (Lays y)) (S : Nat → Prop) (l p : Nat) (I : List In) (c : Cs) (B : Nat) (w : World) (nv kv : Value) (hB : Hid (B ≤ w.heap.size)) (hS : Hid (∀ b, S b → B ≤ b)) (hL : Hid (LyS S l p I c w)) (hV : Hid (StrsIn B nv ns w)) (hN : Hid (KidsIn B w kv [x, y])) (hR : Hid (Rm I c ((countN x + countN y) + 1) 0)) :
    Calls Tryd.prog 52 #[.pointer (some ⟨l, 0, none⟩), .agg #[.int .i64 11, .int .i64 o, .int .i64 n, .string s, nv, kv, .int .i64 q]] w fun e w' => e = .returned (.tuple #[]) ∧ Gone S l p (joinC I (cN (.mk 11 o n s ns [x, y] q) c).1) (cN (.mk 11 o n s ns [x, y] q) c).2 w w' := by
  obtain ⟨na, nc, rfl, _⟩ := strsIn_cases hV.out
  obtain ⟨ao, cap, rfl, _⟩ := kidsIn_cases hN.out
  have h0 := hL.out.mono (T := fun b => S b ∧ b < w.heap.size) (fun b hb q => ⟨q, hb⟩)
  have hS0 : Hid (∀ b, (S b ∧ b < w.heap.size) → B ≤ b) := hid (fun b q => hS.out b q.1)
  have AB := hid ((Below.refl w.heap.size w).alloc (Nat.le_refl _) (.cells #[.int .i64 11, .int .i64 o, .int .i64 n, .string s, .slice na ns.length nc, .slice ao [x, y].length cap, .int .i64 q] 47))
  have BX := hid (blk_new w 47 #[.int .i64 11, .int .i64 o, .int .i64 n, .string s, .slice na ns.length nc, .slice ao [x, y].length cap, .int .i64 q])
  have O0 := hid (On.start (h0.on AB.out))
  generalize hW : w.alloc (.cells #[.int .i64 11, .int .i64 o, .int .i64 n, .string s, .slice na ns.length nc, .slice ao [x, y].length cap, .int .i64 q] 47) = w0 at *
  have hB0 : Hid (B ≤ w0.heap.size) := hid (Nat.le_trans hB.out AB.out.size)
  have R0 := hR
  clear h0
  rw [cN_either (by decide)]
  simp only [List.length_cons, List.length_nil, Nat.zero_add, Nat.reduceAdd] at *
  go_enter Tryd.func52, Tryd.ntmps52
  go_wp2_with fail
  refine (lay_calls w0 O0.out.ly (by have := R0.out.ins; omega) 1 1).mono ?_
  rintro e w1 ⟨rfl, g⟩
  have O1 := hid (O0.out.step g)
  have R1 := hid (Rm.one (n := (countN x + countN y)) (d := 3) (1, 1, 0) (R0.out.to (by omega) (by omega)))
  clear g
  have B2 := hid (blk_keep BX.out O1.out.keep (fun q => by have := q.2; omega))
  have y0 : w1.cell? ⟨w.heap.size, 0, none⟩ = some (.int .i64 11) := blk_cellZ B2.out 0 rfl
  have y1 : w1.cell? ⟨w.heap.size, 1, none⟩ = some (.int .i64 o) := blk_cellZ B2.out 1 rfl
  have y2 : w1.cell? ⟨w.heap.size, 2, none⟩ = some (.int .i64 n) := blk_cellZ B2.out 2 rfl
  have y3 : w1.cell? ⟨w.heap.size, 3, none⟩ = some (.string s) := blk_cellZ B2.out 3 rfl
  have y4 : w1.cell? ⟨w.heap.size, 4, none⟩ = some (.slice na ns.length nc) := blk_cellZ B2.out 4 rfl
  have y5 : w1.cell? ⟨w.heap.size, 5, none⟩ = some (.slice ao 2 cap) := blk_cellZ B2.out 5 rfl
  have y6 : w1.cell? ⟨w.heap.size, 6, none⟩ = some (.int .i64 q) := blk_cellZ B2.out 6 rfl
  have LB := hid ((AB.out.mono hB.out).trans (O1.out.low hB0.out hS0.out))
  go_wp2_with fail
  refine (either_of x y HX HY 11 o n q s 24 (by decide) _ l p _ _ B w1 _ _ (hid (Nat.le_trans hB0.out O1.out.keep.size)) (hid (O1.out.lowT hB0.out hS0.out)) (hid O1.out.ly) ⟨_, _, _, rfl⟩ (hid (kidsIn_on LB.out hN.out)) (hid (R1.out.to (by omega) (by omega)))).mono ?_
  rintro e w3 ⟨rfl, g⟩
  have O3 := hid (O1.out.step g)
  clear g
  go_wp2_with fail
  go_end0
  rw [← join_assoc, join_one (by rfl)]
  exact ⟨rfl, O3.out.fin AB.out (fun b q => q.1)⟩
set_option maxHeartbeats 3200000 in
set_option maxRecDepth 100000 in
theorem node_12 (o n q : Int) (s : ByteArray) (ns : List ByteArray) (x y : Nd) (HX : Hid (Lays x)) (HY : Hid (Lays y)) (S : Nat → Prop) (l p : Nat) (I : List In) (c : Cs) (B : Nat) (w : World) (nv kv : Value) (hB : Hid (B ≤ w.heap.size)) (hS : Hid (∀ b, S b → B ≤ b)) (hL : Hid (LyS S l p I c w)) (hV : Hid (StrsIn B nv ns w)) (hN : Hid (KidsIn B w kv [x, y])) (hR : Hid (Rm I c ((countN x + countN y) + 1) 0)) :
    Calls Tryd.prog 52 #[.pointer (some ⟨l, 0, none⟩), .agg #[.int .i64 12, .int .i64 o, .int .i64 n, .string s, nv, kv, .int .i64 q]] w fun e w' => e = .returned (.tuple #[]) ∧ Gone S l p (joinC I (cN (.mk 12 o n s ns [x, y] q) c).1) (cN (.mk 12 o n s ns [x, y] q) c).2 w w' := by
  obtain ⟨na, nc, rfl, _⟩ := strsIn_cases hV.out
  obtain ⟨ao, cap, rfl, _⟩ := kidsIn_cases hN.out
  have h0 := hL.out.mono (T := fun b => S b ∧ b < w.heap.size) (fun b hb q => ⟨q, hb⟩)
  have hS0 : Hid (∀ b, (S b ∧ b < w.heap.size) → B ≤ b) := hid (fun b q => hS.out b q.1)
  have AB := hid ((Below.refl w.heap.size w).alloc (Nat.le_refl _) (.cells #[.int .i64 12, .int .i64 o, .int .i64 n, .string s, .slice na ns.length nc, .slice ao [x, y].length cap, .int .i64 q] 47))
  have BX := hid (blk_new w 47 #[.int .i64 12, .int .i64 o, .int .i64 n, .string s, .slice na ns.length nc, .slice ao [x, y].length cap, .int .i64 q])
  have O0 := hid (On.start (h0.on AB.out))
  generalize hW : w.alloc (.cells #[.int .i64 12, .int .i64 o, .int .i64 n, .string s, .slice na ns.length nc, .slice ao [x, y].length cap, .int .i64 q] 47) = w0 at *
  have hB0 : Hid (B ≤ w0.heap.size) := hid (Nat.le_trans hB.out AB.out.size)
  have R0 := hR
  clear h0
  rw [cN_either (by decide)]
  simp only [List.length_cons, List.length_nil, Nat.zero_add, Nat.reduceAdd] at *
  go_enter Tryd.func52, Tryd.ntmps52
  go_wp2_with fail
  refine (lay_calls w0 O0.out.ly (by have := R0.out.ins; omega) 1 1).mono ?_
  rintro e w1 ⟨rfl, g⟩
  have O1 := hid (O0.out.step g)
  have R1 := hid (Rm.one (n := (countN x + countN y)) (d := 3) (1, 1, 0) (R0.out.to (by omega) (by omega)))
  clear g
  have B2 := hid (blk_keep BX.out O1.out.keep (fun q => by have := q.2; omega))
  have y0 : w1.cell? ⟨w.heap.size, 0, none⟩ = some (.int .i64 12) := blk_cellZ B2.out 0 rfl
  have y1 : w1.cell? ⟨w.heap.size, 1, none⟩ = some (.int .i64 o) := blk_cellZ B2.out 1 rfl
  have y2 : w1.cell? ⟨w.heap.size, 2, none⟩ = some (.int .i64 n) := blk_cellZ B2.out 2 rfl
  have y3 : w1.cell? ⟨w.heap.size, 3, none⟩ = some (.string s) := blk_cellZ B2.out 3 rfl
  have y4 : w1.cell? ⟨w.heap.size, 4, none⟩ = some (.slice na ns.length nc) := blk_cellZ B2.out 4 rfl
  have y5 : w1.cell? ⟨w.heap.size, 5, none⟩ = some (.slice ao 2 cap) := blk_cellZ B2.out 5 rfl
  have y6 : w1.cell? ⟨w.heap.size, 6, none⟩ = some (.int .i64 q) := blk_cellZ B2.out 6 rfl
  have LB := hid ((AB.out.mono hB.out).trans (O1.out.low hB0.out hS0.out))
  go_wp2_with fail
  refine (either_of x y HX HY 12 o n q s 25 (by decide) _ l p _ _ B w1 _ _ (hid (Nat.le_trans hB0.out O1.out.keep.size)) (hid (O1.out.lowT hB0.out hS0.out)) (hid O1.out.ly) ⟨_, _, _, rfl⟩ (hid (kidsIn_on LB.out hN.out)) (hid (R1.out.to (by omega) (by omega)))).mono ?_
  rintro e w3 ⟨rfl, g⟩
  have O3 := hid (O1.out.step g)
  clear g
  go_wp2_with fail
  go_end0
  rw [← join_assoc, join_one (by rfl)]
  exact ⟨rfl, O3.out.fin AB.out (fun b q => q.1)⟩
set_option maxHeartbeats 3200000 in
set_option maxRecDepth 100000 in
theorem node_16 (o n q : Int) (s : ByteArray) (ns : List ByteArray) (x : Nd) (r : List Nd) (HX : Hid (Lays x)) (HR : Hid (∀ y ∈ r, Lays y)) (hs : s.size ≤ maxLen) (S : Nat → Prop) (l p : Nat) (I : List In) (c : Cs) (B : Nat) (w : World) (nv kv : Value) (hB : Hid (B ≤ w.heap.size)) (hS : Hid (∀ b, S b → B ≤ b)) (hL : Hid (LyS S l p I c w)) (hV : Hid (StrsIn B nv ns w)) (hN : Hid (KidsIn B w kv (x :: r))) (hR : Hid (Rm I c ((countN x + countL r) + 1) 0)) :
    Calls Tryd.prog 52 #[.pointer (some ⟨l, 0, none⟩), .agg #[.int .i64 16, .int .i64 o, .int .i64 n, .string s, nv, kv, .int .i64 q]] w fun e w' => e = .returned (.tuple #[]) ∧ Gone S l p (joinC I (cN (.mk 16 o n s ns (x :: r) q) c).1) (cN (.mk 16 o n s ns (x :: r) q) c).2 w w' := by
  obtain ⟨na, nc, rfl, _⟩ := strsIn_cases hV.out
  obtain ⟨ao, cap, rfl, _⟩ := kidsIn_cases hN.out
  have h0 := hL.out.mono (T := fun b => S b ∧ b < w.heap.size) (fun b hb q => ⟨q, hb⟩)
  have hS0 : Hid (∀ b, (S b ∧ b < w.heap.size) → B ≤ b) := hid (fun b q => hS.out b q.1)
  have AB := hid ((Below.refl w.heap.size w).alloc (Nat.le_refl _) (.cells #[.int .i64 16, .int .i64 o, .int .i64 n, .string s, .slice na ns.length nc, .slice ao (x :: r).length cap, .int .i64 q] 47))
  have BX := hid (blk_new w 47 #[.int .i64 16, .int .i64 o, .int .i64 n, .string s, .slice na ns.length nc, .slice ao (x :: r).length cap, .int .i64 q])
  have O0 := hid (On.start (h0.on AB.out))
  generalize hW : w.alloc (.cells #[.int .i64 16, .int .i64 o, .int .i64 n, .string s, .slice na ns.length nc, .slice ao (x :: r).length cap, .int .i64 q] 47) = w0 at *
  have hB0 : Hid (B ≤ w0.heap.size) := hid (Nat.le_trans hB.out AB.out.size)
  have R0 := hR
  clear h0
  rw [cN_meth]
  simp only [List.length_cons, List.length_nil, Nat.zero_add, Nat.reduceAdd] at *
  go_enter Tryd.func52, Tryd.ntmps52
  go_wp2_with fail
  refine (lay_calls w0 O0.out.ly (by have := R0.out.ins; omega) 1 1).mono ?_
  rintro e w1 ⟨rfl, g⟩
  have O1 := hid (O0.out.step g)
  have R1 := hid (Rm.one (n := (countN x + countL r)) (d := 3) (1, 1, 0) (R0.out.to (by omega) (by omega)))
  clear g
  have B2 := hid (blk_keep BX.out O1.out.keep (fun q => by have := q.2; omega))
  have y0 : w1.cell? ⟨w.heap.size, 0, none⟩ = some (.int .i64 16) := blk_cellZ B2.out 0 rfl
  have y1 : w1.cell? ⟨w.heap.size, 1, none⟩ = some (.int .i64 o) := blk_cellZ B2.out 1 rfl
  have y2 : w1.cell? ⟨w.heap.size, 2, none⟩ = some (.int .i64 n) := blk_cellZ B2.out 2 rfl
  have y3 : w1.cell? ⟨w.heap.size, 3, none⟩ = some (.string s) := blk_cellZ B2.out 3 rfl
  have y4 : w1.cell? ⟨w.heap.size, 4, none⟩ = some (.slice na ns.length nc) := blk_cellZ B2.out 4 rfl
  have y5 : w1.cell? ⟨w.heap.size, 5, none⟩ = some (.slice ao (r.length + 1) cap) := blk_cellZ B2.out 5 rfl
  have y6 : w1.cell? ⟨w.heap.size, 6, none⟩ = some (.int .i64 q) := blk_cellZ B2.out 6 rfl
  have LB := hid ((AB.out.mono hB.out).trans (O1.out.low hB0.out hS0.out))
  go_wp2_with fail
  refine (method_of x r HX HR 16 o n q s hs _ l p _ _ B w1 _ _ (hid (Nat.le_trans hB0.out O1.out.keep.size)) (hid (O1.out.lowT hB0.out hS0.out)) (hid O1.out.ly) ⟨_, _, _, rfl⟩ (hid (kidsIn_on LB.out hN.out)) (hid (R1.out.to (by omega) (by omega)))).mono ?_
  rintro e w3 ⟨rfl, g⟩
  have O3 := hid (O1.out.step g)
  clear g
  go_wp2_with fail
  go_end0
  rw [← join_assoc, join_one (by rfl)]
  exact ⟨rfl, O3.out.fin AB.out (fun b q => q.1)⟩
set_option maxHeartbeats 3200000 in
set_option maxRecDepth 100000 in
theorem node_28 (o n q : Int) (s : ByteArray) (ns : List ByteArray) (x y z : Nd) (HX : Hid (Lays x)) (HY : Hid (Lays y)) (HZ : Hid (Lays z)) (S : Nat → Prop) (l p : Nat) (I : List In) (c : Cs) (B : Nat) (w : World) (nv kv : Value) (hB : Hid (B ≤ w.heap.size)) (hS : Hid (∀ b, S b → B ≤ b)) (hL : Hid (LyS S l p I c w)) (hV : Hid (StrsIn B nv ns w)) (hN : Hid (KidsIn B w kv [x, y, z])) (hR : Hid (Rm I c ((countN x + countN y + countN z) + 1) 0)) :
    Calls Tryd.prog 52 #[.pointer (some ⟨l, 0, none⟩), .agg #[.int .i64 28, .int .i64 o, .int .i64 n, .string s, nv, kv, .int .i64 q]] w fun e w' => e = .returned (.tuple #[]) ∧ Gone S l p (joinC I (cN (.mk 28 o n s ns [x, y, z] q) c).1) (cN (.mk 28 o n s ns [x, y, z] q) c).2 w w' := by
  obtain ⟨na, nc, rfl, _⟩ := strsIn_cases hV.out
  obtain ⟨ao, cap, rfl, _⟩ := kidsIn_cases hN.out
  have h0 := hL.out.mono (T := fun b => S b ∧ b < w.heap.size) (fun b hb q => ⟨q, hb⟩)
  have hS0 : Hid (∀ b, (S b ∧ b < w.heap.size) → B ≤ b) := hid (fun b q => hS.out b q.1)
  have AB := hid ((Below.refl w.heap.size w).alloc (Nat.le_refl _) (.cells #[.int .i64 28, .int .i64 o, .int .i64 n, .string s, .slice na ns.length nc, .slice ao [x, y, z].length cap, .int .i64 q] 47))
  have BX := hid (blk_new w 47 #[.int .i64 28, .int .i64 o, .int .i64 n, .string s, .slice na ns.length nc, .slice ao [x, y, z].length cap, .int .i64 q])
  have O0 := hid (On.start (h0.on AB.out))
  generalize hW : w.alloc (.cells #[.int .i64 28, .int .i64 o, .int .i64 n, .string s, .slice na ns.length nc, .slice ao [x, y, z].length cap, .int .i64 q] 47) = w0 at *
  have hB0 : Hid (B ≤ w0.heap.size) := hid (Nat.le_trans hB.out AB.out.size)
  have R0 := hR
  clear h0
  rw [cN_if]
  simp only [List.length_cons, List.length_nil, Nat.zero_add, Nat.reduceAdd] at *
  go_enter Tryd.func52, Tryd.ntmps52
  go_wp2_with fail
  refine (lay_calls w0 O0.out.ly (by have := R0.out.ins; omega) 1 1).mono ?_
  rintro e w1 ⟨rfl, g⟩
  have O1 := hid (O0.out.step g)
  have R1 := hid (Rm.one (n := (countN x + countN y + countN z)) (d := 3) (1, 1, 0) (R0.out.to (by omega) (by omega)))
  clear g
  have B2 := hid (blk_keep BX.out O1.out.keep (fun q => by have := q.2; omega))
  have y0 : w1.cell? ⟨w.heap.size, 0, none⟩ = some (.int .i64 28) := blk_cellZ B2.out 0 rfl
  have y1 : w1.cell? ⟨w.heap.size, 1, none⟩ = some (.int .i64 o) := blk_cellZ B2.out 1 rfl
  have y2 : w1.cell? ⟨w.heap.size, 2, none⟩ = some (.int .i64 n) := blk_cellZ B2.out 2 rfl
  have y3 : w1.cell? ⟨w.heap.size, 3, none⟩ = some (.string s) := blk_cellZ B2.out 3 rfl
  have y4 : w1.cell? ⟨w.heap.size, 4, none⟩ = some (.slice na ns.length nc) := blk_cellZ B2.out 4 rfl
  have y5 : w1.cell? ⟨w.heap.size, 5, none⟩ = some (.slice ao 3 cap) := blk_cellZ B2.out 5 rfl
  have y6 : w1.cell? ⟨w.heap.size, 6, none⟩ = some (.int .i64 q) := blk_cellZ B2.out 6 rfl
  have LB := hid ((AB.out.mono hB.out).trans (O1.out.low hB0.out hS0.out))
  go_wp2_with fail
  refine (choice_of x y z HX HY HZ 28 o n q s _ l p _ _ B w1 _ _ (hid (Nat.le_trans hB0.out O1.out.keep.size)) (hid (O1.out.lowT hB0.out hS0.out)) (hid O1.out.ly) ⟨_, _, _, rfl⟩ (hid (kidsIn_on LB.out hN.out)) (hid (R1.out.to (by omega) (by omega)))).mono ?_
  rintro e w3 ⟨rfl, g⟩
  have O3 := hid (O1.out.step g)
  clear g
  go_wp2_with fail
  go_end0
  rw [← join_assoc, join_one (by rfl)]
  exact ⟨rfl, O3.out.fin AB.out (fun b q => q.1)⟩
set_option maxHeartbeats 3200000 in
set_option maxRecDepth 100000 in
theorem node_30 (o n q : Int) (s : ByteArray) (ns : List ByteArray) (x y : Nd) (HX : Hid (Lays x)) (HY : Hid (Lays y)) (S : Nat → Prop) (l p : Nat) (I : List In) (c : Cs) (B : Nat) (w : World) (nv kv : Value) (hB : Hid (B ≤ w.heap.size)) (hS : Hid (∀ b, S b → B ≤ b)) (hL : Hid (LyS S l p I c w)) (hV : Hid (StrsIn B nv ns w)) (hN : Hid (KidsIn B w kv [x, y])) (hR : Hid (Rm I c ((countN x + countN y) + 1) 0)) :
    Calls Tryd.prog 52 #[.pointer (some ⟨l, 0, none⟩), .agg #[.int .i64 30, .int .i64 o, .int .i64 n, .string s, nv, kv, .int .i64 q]] w fun e w' => e = .returned (.tuple #[]) ∧ Gone S l p (joinC I (cN (.mk 30 o n s ns [x, y] q) c).1) (cN (.mk 30 o n s ns [x, y] q) c).2 w w' := by
  obtain ⟨na, nc, rfl, _⟩ := strsIn_cases hV.out
  obtain ⟨ao, cap, rfl, _⟩ := kidsIn_cases hN.out
  have h0 := hL.out.mono (T := fun b => S b ∧ b < w.heap.size) (fun b hb q => ⟨q, hb⟩)
  have hS0 : Hid (∀ b, (S b ∧ b < w.heap.size) → B ≤ b) := hid (fun b q => hS.out b q.1)
  have AB := hid ((Below.refl w.heap.size w).alloc (Nat.le_refl _) (.cells #[.int .i64 30, .int .i64 o, .int .i64 n, .string s, .slice na ns.length nc, .slice ao [x, y].length cap, .int .i64 q] 47))
  have BX := hid (blk_new w 47 #[.int .i64 30, .int .i64 o, .int .i64 n, .string s, .slice na ns.length nc, .slice ao [x, y].length cap, .int .i64 q])
  have O0 := hid (On.start (h0.on AB.out))
  generalize hW : w.alloc (.cells #[.int .i64 30, .int .i64 o, .int .i64 n, .string s, .slice na ns.length nc, .slice ao [x, y].length cap, .int .i64 q] 47) = w0 at *
  have hB0 : Hid (B ≤ w0.heap.size) := hid (Nat.le_trans hB.out AB.out.size)
  have R0 := hR
  clear h0
  rw [cN_while]
  simp only [List.length_cons, List.length_nil, Nat.zero_add, Nat.reduceAdd] at *
  go_enter Tryd.func52, Tryd.ntmps52
  go_wp2_with fail
  refine (lay_calls w0 O0.out.ly (by have := R0.out.ins; omega) 1 1).mono ?_
  rintro e w1 ⟨rfl, g⟩
  have O1 := hid (O0.out.step g)
  have R1 := hid (Rm.one (n := (countN x + countN y)) (d := 3) (1, 1, 0) (R0.out.to (by omega) (by omega)))
  clear g
  have B2 := hid (blk_keep BX.out O1.out.keep (fun q => by have := q.2; omega))
  have y0 : w1.cell? ⟨w.heap.size, 0, none⟩ = some (.int .i64 30) := blk_cellZ B2.out 0 rfl
  have y1 : w1.cell? ⟨w.heap.size, 1, none⟩ = some (.int .i64 o) := blk_cellZ B2.out 1 rfl
  have y2 : w1.cell? ⟨w.heap.size, 2, none⟩ = some (.int .i64 n) := blk_cellZ B2.out 2 rfl
  have y3 : w1.cell? ⟨w.heap.size, 3, none⟩ = some (.string s) := blk_cellZ B2.out 3 rfl
  have y4 : w1.cell? ⟨w.heap.size, 4, none⟩ = some (.slice na ns.length nc) := blk_cellZ B2.out 4 rfl
  have y5 : w1.cell? ⟨w.heap.size, 5, none⟩ = some (.slice ao 2 cap) := blk_cellZ B2.out 5 rfl
  have y6 : w1.cell? ⟨w.heap.size, 6, none⟩ = some (.int .i64 q) := blk_cellZ B2.out 6 rfl
  have LB := hid ((AB.out.mono hB.out).trans (O1.out.low hB0.out hS0.out))
  go_wp2_with fail
  refine (loop_of x y HX HY 30 o n q s _ l p _ _ B w1 _ _ (hid (Nat.le_trans hB0.out O1.out.keep.size)) (hid (O1.out.lowT hB0.out hS0.out)) (hid O1.out.ly) ⟨_, _, _, rfl⟩ (hid (kidsIn_on LB.out hN.out)) (hid (R1.out.to (by omega) (by omega)))).mono ?_
  rintro e w3 ⟨rfl, g⟩
  have O3 := hid (O1.out.step g)
  clear g
  go_wp2_with fail
  go_end0
  rw [← join_assoc, join_one (by rfl)]
  exact ⟨rfl, O3.out.fin AB.out (fun b q => q.1)⟩
/-- a right node is laid as it should be -/
theorem lays {bb : Bds} (t : Nd) : ∀ a, rightD bb t a = true → Lays t := by
  refine Nd.ind (P := fun t => ∀ a, rightD bb t a = true → Lays t) ?_ t
  clear t
  intro k o n s ns ks q ih a hr
  rw [rightD] at hr
  unfold fldD at hr
  simp only [Bool.and_eq_true] at hr
  obtain ⟨_, hm, ⟨_, ho, hs, hns⟩, hk⟩ := hr
  have hs' : s.size ≤ maxLen := by have := str_le hs; unfold maxLen; omega
  have HK : ∀ x ∈ ks, Lays x := fun x hx => by
    obtain ⟨a, h⟩ := kids_right hk x hx
    exact ih x hx a h
  intro S l p I c B w nv kv hB hS hL hN hR
  obtain ⟨hV, hKs⟩ := ndIn_mk.1 hN.out
  simp only [ndA, Nd.kind, Nd.op, Nd.num, Nd.str, Nd.pl]
  rw [countN] at hR
  by_cases h7 : k = 7
  · subst h7
    have hl : ks.length = ns.length := by simpa [manyD] using hm
    have hz : ∀ m ∈ ns, m.size ≤ maxLen := fun m hx => by
      have h := hns
      unfold nsD at h
      rw [if_pos rfl, Bool.and_eq_true] at h
      have := cname_short (List.all_eq_true.1 h.2 m hx)
      unfold maxLen; omega
    exact node_7 o n q s ns ks (hid HK) (hid hl) hz S l p I c B w nv kv hB hS hL (hid hV) (hid hKs) hR
  · by_cases h11 : k = 11
    · subst h11
      obtain ⟨x, y, rfl⟩ := two_of (show ks.length = 2 by simpa [manyD] using hm)
      exact node_11 o n q s ns x y (hid (HK x (by simp))) (hid (HK y (by simp))) S l p I c B w nv kv hB hS hL (hid hV) (hid hKs) (hid (hR.out.to (by simp [countL]) (by simp [countL])))
    · by_cases h12 : k = 12
      · subst h12
        obtain ⟨x, y, rfl⟩ := two_of (show ks.length = 2 by simpa [manyD] using hm)
        exact node_12 o n q s ns x y (hid (HK x (by simp))) (hid (HK y (by simp))) S l p I c B w nv kv hB hS hL (hid hV) (hid hKs) (hid (hR.out.to (by simp [countL]) (by simp [countL])))
      · by_cases h16 : k = 16
        · subst h16
          have hl : 1 ≤ ks.length ∧ ks.length ≤ 7 := by simpa [manyD] using hm
          cases ks with
          | nil => simp at hl
          | cons x r => exact node_16 o n q s ns x r (hid (HK x (by simp))) (hid fun y hy => HK y (by simp [hy])) hs' S l p I c B w nv kv hB hS hL (hid hV) (hid hKs) (hid (hR.out.to (by simp [countL]) (by simp [countL])))
        · by_cases h28 : k = 28
          · subst h28
            obtain ⟨x, y, z, rfl⟩ := three_of (show ks.length = 3 by simpa [manyD] using hm)
            exact node_28 o n q s ns x y z (hid (HK x (by simp))) (hid (HK y (by simp))) (hid (HK z (by simp))) S l p I c B w nv kv hB hS hL (hid hV) (hid hKs) (hid (hR.out.to (by simp [countL] <;> omega) (by simp [countL] <;> omega)))
          · by_cases h30 : k = 30
            · subst h30
              obtain ⟨x, y, rfl⟩ := two_of (show ks.length = 2 by simpa [manyD] using hm)
              exact node_30 o n q s ns x y (hid (HK x (by simp))) (hid (HK y (by simp))) S l p I c B w nv kv hB hS hL (hid hV) (hid hKs) (hid (hR.out.to (by simp [countL]) (by simp [countL])))
            · rw [cN_plain ⟨h7, h11, h12, h16, h28, h30⟩]
              refine lplain_of k o n q s ns ks ⟨h7, h11, h12, h16, h28, h30⟩ ?_ (hid HK) hs' (by have := many_le hm ho h7; omega) S l p I c B w nv kv hB hS hL (hid hV) (hid hKs) hR
              have := kinds_of hm
              unfold endK layK layD
              omega
end Go.Proofs.YtgdbaceehpcgbaaDoor
