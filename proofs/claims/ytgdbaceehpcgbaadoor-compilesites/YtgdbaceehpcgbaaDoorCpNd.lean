/- What the program lays for a node whose parts come ahead of it. -/
import Derived.Test.YtgdbaceehpcgbaaDoorJoint10
import Derived.Test.YtgdbaceehpcgbaaDoorJoint15
import Derived.Test.YtgdbaceehpcgbaaDoorJoint3
namespace Go.Proofs.YtgdbaceehpcgbaaDoor
set_option linter.unusedSimpArgs false
open Go.RowKit

theorem Gone.pre {S : Nat → Prop} {l p : Nat} {J : List In} {d : Cs} {w u w' : World} (A : Below w.heap.size w u) (G : Gone S l p J d u w') : Gone S l p J d w w' :=
  ⟨G.1.mono fun _ _ h => h.imp id fun h => Nat.le_trans A.size h, (Keep.of A).trans G.2 (fun _ _ h => h)⟩
theorem Gone.sub {S T : Nat → Prop} {l p : Nat} {J : List In} {d : Cs} {w w' : World} (G : Gone S l p J d w w') (h : ∀ b, S b → T b) : Gone T l p J d w w' :=
  ⟨G.1.mono fun b _ q => q.imp (h b) id, G.2.mono fun b _ q => h b q⟩
/-- where a call is: begun at W0, with what is laid in the blocks of T -/
structure On (S0 : Nat → Prop) (W0 : World) (l p : Nat) (I : List In) (c : Cs) (T : Nat → Prop) (w : World) : Prop where
  ly : LyS T l p I c w
  keep : Keep S0 W0 w
  sub : ∀ b, T b → Up S0 W0 b
theorem On.start {S0 : Nat → Prop} {l p : Nat} {I : List In} {c : Cs} {W0 : World} (h : LyS S0 l p I c W0) : On S0 W0 l p I c S0 W0 := ⟨h, Keep.refl _ _, fun _ h => .inl h⟩
theorem On.step {S0 T : Nat → Prop} {l p : Nat} {I J : List In} {c d : Cs} {W0 w w' : World} (h : On S0 W0 l p I c T w) (G : Gone T l p J d w w') : On S0 W0 l p J d (Up T w) w' :=
  ⟨G.1, h.keep.trans G.2 (fun b hb q => (h.sub b q).resolve_right (by omega)), fun b q => q.elim (h.sub b) fun q => .inr (Nat.le_trans h.keep.size q)⟩
theorem On.hop {S0 T : Nat → Prop} {l p : Nat} {I J : List In} {c d : Cs} {W0 w w' : World} (h : On S0 W0 l p I c T w) (h1 : LyS T l p J d w') (h2 : Keep T w w') : On S0 W0 l p J d T w' :=
  ⟨h1, h.keep.trans h2 (fun b hb q => (h.sub b q).resolve_right (by omega)), h.sub⟩
theorem On.leap {S0 T : Nat → Prop} {l p gl ga : Nat} {I J : List In} {c d : Cs} {W0 w w' : World} (h : On S0 W0 l p I c T w) (h1 : LyS (fun b => Up T w b ∧ b ≠ gl ∧ b ≠ ga) l p J d w') (h2 : Keep T w w') : On S0 W0 l p J d (fun b => Up T w b ∧ b ≠ gl ∧ b ≠ ga) w' :=
  ⟨h1, h.keep.trans h2 (fun b hb q => (h.sub b q).resolve_right (by omega)), fun b q => q.1.elim (h.sub b) fun q => .inr (Nat.le_trans h.keep.size q)⟩
theorem On.fin {S0 S T : Nat → Prop} {l p : Nat} {I : List In} {c : Cs} {u W0 w : World} (h : On S0 W0 l p I c T w) (A : Below u.heap.size u W0) (hS : ∀ b, S0 b → S b) : Gone S l p I c u w :=
  ⟨h.ly.mono fun b _ q => (h.sub b q).imp (hS b) fun q => Nat.le_trans A.size q, (Keep.of A).trans h.keep fun b _ q => hS b q⟩
theorem On.low {S0 T : Nat → Prop} {l p B : Nat} {I : List In} {c : Cs} {W0 w : World} (h : On S0 W0 l p I c T w) (hB : B ≤ W0.heap.size) (hS : ∀ b, S0 b → B ≤ b) : Below B W0 w := h.keep.below hB hS
theorem On.lowT {S0 T : Nat → Prop} {l p B : Nat} {I : List In} {c : Cs} {W0 w : World} (h : On S0 W0 l p I c T w) (hB : B ≤ W0.heap.size) (hS : ∀ b, S0 b → B ≤ b) : ∀ b, T b → B ≤ b := fun b q => (h.sub b q).elim (hS b) fun q => Nat.le_trans hB q

abbrev ndA (t : Nd) (nv kv : Value) : Value := .agg #[.int .i64 t.kind, .int .i64 t.op, .int .i64 t.num, .string t.str, nv, kv, .int .i64 t.pl]
/-- the kinds that lay one instruction without a string -/
def layK (k : Int) : Prop := k = 1 ∨ k = 2 ∨ k = 3 ∨ k = 6 ∨ k = 9 ∨ k = 10 ∨ k = 14 ∨ k = 15 ∨ k = 17 ∨ k = 18 ∨ k = 19 ∨ k = 20
def layD (k : Int) : Prop := k = 24 ∨ k = 26 ∨ k = 27 ∨ k = 31 ∨ k = 32 ∨ k = 33 ∨ k = 34
set_option maxHeartbeats 3200000 in
set_option maxRecDepth 100000 in
theorem worked_lay {S : Nat → Prop} {l p m kc : Nat} {I : List In} {c : Cs} (w : World) (h : LyS S l p I c w) (hl : I.length ≤ 900000) (k o n q : Int) (s : ByteArray) (nv : Value) (ka : Option Addr) (hm : m ≤ 1000) (hk : layK k) :
    Calls Tryd.prog 87 #[.pointer (some ⟨l, 0, none⟩), .agg #[.int .i64 k, .int .i64 o, .int .i64 n, .string s, nv, .slice ka m kc, .int .i64 q]] w fun e w' => e = .returned (.tuple #[]) ∧ Gone S l p (I ++ (endC k o n s m c).1) (endC k o n s m c).2 w w' := by
  have A := (Below.refl w.heap.size w).alloc (Nat.le_refl _) (.cells #[.int .i64 k, .int .i64 o, .int .i64 n, .string s, nv, .slice ka m kc, .int .i64 q] 47)
  have H := hid (h.on A)
  have HA := hid A
  have wr : IntKind.i64.wrap ((m : Int) - 1) = (m : Int) - 1 := by rw [IntKind.wrap_i64]; omega
  clear h A
  rcases hk with rfl | rfl | rfl | rfl | rfl | rfl | rfl | rfl | rfl | rfl | rfl | rfl
  all_goals
    go_enter Tryd.func87, Tryd.ntmps87
    go_wp2_with fail
    refine (lay_calls _ H.out (by omega) _ _).mono ?_
    rintro e w1 ⟨rfl, G1⟩
    have G := hid (G1.pre HA.out)
    clear G1
    go_wp2_with fail
    go_end0
    exact ⟨rfl, G.out⟩
set_option maxHeartbeats 3200000 in
set_option maxRecDepth 100000 in
theorem done_lay {S : Nat → Prop} {l p m kc : Nat} {I : List In} {c : Cs} (w : World) (h : LyS S l p I c w) (hl : I.length ≤ 900000) (k o n q : Int) (s : ByteArray) (nv : Value) (ka : Option Addr) (hk : layD k) :
    Calls Tryd.prog 88 #[.pointer (some ⟨l, 0, none⟩), .agg #[.int .i64 k, .int .i64 o, .int .i64 n, .string s, nv, .slice ka m kc, .int .i64 q]] w fun e w' => e = .returned (.tuple #[]) ∧ Gone S l p (I ++ (endC k o n s m c).1) (endC k o n s m c).2 w w' := by
  have A := (Below.refl w.heap.size w).alloc (Nat.le_refl _) (.cells #[.int .i64 k, .int .i64 o, .int .i64 n, .string s, nv, .slice ka m kc, .int .i64 q] 47)
  have H := hid (h.on A)
  have HA := hid A
  clear h A
  rcases hk with rfl | rfl | rfl | rfl | rfl | rfl | rfl
  all_goals
    go_enter Tryd.func88, Tryd.ntmps88
    go_wp2_with fail
    refine (lay_calls _ H.out (by omega) _ _).mono ?_
    rintro e w1 ⟨rfl, G1⟩
    have G := hid (G1.pre HA.out)
    clear G1
    go_wp2_with fail
    go_end0
    exact ⟨rfl, G.out⟩
set_option maxHeartbeats 3200000 in
set_option maxRecDepth 100000 in
theorem worked_site {S : Nat → Prop} {l p m kc : Nat} {I : List In} {c : Cs} (w : World) (h : LyS S l p I c w) (hl : I.length ≤ 900000) (o n q : Int) (s : ByteArray) (nv : Value) (ka : Option Addr) (hL : c.1.length ≤ 1000000) (hc0 : 0 ≤ c.2) (hc1 : c.2 ≤ 1000000) (hs : s.size ≤ maxLen) :
    Calls Tryd.prog 87 #[.pointer (some ⟨l, 0, none⟩), .agg #[.int .i64 13, .int .i64 o, .int .i64 n, .string s, nv, .slice ka m kc, .int .i64 q]] w fun e w' => e = .returned (.tuple #[]) ∧ Gone S l p (I ++ (endC 13 o n s m c).1) (endC 13 o n s m c).2 w w' := by
  have A := (Below.refl w.heap.size w).alloc (Nat.le_refl _) (.cells #[.int .i64 13, .int .i64 o, .int .i64 n, .string s, nv, .slice ka m kc, .int .i64 q] 47)
  have H := hid (h.on A)
  have HA := hid A
  clear h A
  go_enter Tryd.func87, Tryd.ntmps87
  go_wp2_with fail
  refine (laySite_calls _ H.out (by omega) hL hc0 hc1 _ s hs).mono ?_
  rintro e w1 ⟨rfl, G1⟩
  have G := hid (G1.pre HA.out)
  clear G1
  go_wp2_with fail
  go_end0
  exact ⟨rfl, G.out⟩
set_option maxHeartbeats 3200000 in
set_option maxRecDepth 100000 in
theorem done_site {S : Nat → Prop} {l p m kc : Nat} {I : List In} {c : Cs} (w : World) (h : LyS S l p I c w) (hl : I.length ≤ 900000) (o n q : Int) (s : ByteArray) (nv : Value) (ka : Option Addr) (hL : c.1.length ≤ 1000000) (hc0 : 0 ≤ c.2) (hc1 : c.2 ≤ 1000000) (hs : s.size ≤ maxLen) :
    Calls Tryd.prog 88 #[.pointer (some ⟨l, 0, none⟩), .agg #[.int .i64 23, .int .i64 o, .int .i64 n, .string s, nv, .slice ka m kc, .int .i64 q]] w fun e w' => e = .returned (.tuple #[]) ∧ Gone S l p (I ++ (endC 23 o n s m c).1) (endC 23 o n s m c).2 w w' := by
  have A := (Below.refl w.heap.size w).alloc (Nat.le_refl _) (.cells #[.int .i64 23, .int .i64 o, .int .i64 n, .string s, nv, .slice ka m kc, .int .i64 q] 47)
  have H := hid (h.on A)
  have HA := hid A
  clear h A
  go_enter Tryd.func88, Tryd.ntmps88
  go_wp2_with fail
  refine (laySite_calls _ H.out (by omega) hL hc0 hc1 _ s hs).mono ?_
  rintro e w1 ⟨rfl, G1⟩
  have G := hid (G1.pre HA.out)
  clear G1
  go_wp2_with fail
  go_end0
  exact ⟨rfl, G.out⟩
set_option maxHeartbeats 3200000 in
set_option maxRecDepth 100000 in
theorem worked_text {S : Nat → Prop} {l p m kc : Nat} {I : List In} {c : Cs} (w : World) (h : LyS S l p I c w) (hl : I.length ≤ 900000) (o n q : Int) (s : ByteArray) (nv : Value) (ka : Option Addr) (hL : c.1.length ≤ 1000000) (hs : s.size ≤ maxLen) :
    Calls Tryd.prog 87 #[.pointer (some ⟨l, 0, none⟩), .agg #[.int .i64 4, .int .i64 o, .int .i64 n, .string s, nv, .slice ka m kc, .int .i64 q]] w fun e w' => e = .returned (.tuple #[]) ∧ Gone S l p (I ++ (endC 4 o n s m c).1) (endC 4 o n s m c).2 w w' := by
  have h0 := h.mono (T := fun b => S b ∧ b < w.heap.size) (fun b hb q => ⟨q, hb⟩)
  obtain ⟨v, h1⟩ := h0
  obtain ⟨F, hF, hFS, hFl, hFv, hFw⟩ := ly_tight h1
  have A := ((Below.refl w.heap.size w).alloc (Nat.le_refl _) (.cells #[.int .i64 4, .int .i64 o, .int .i64 n, .string s, nv, .slice ka m kc, .int .i64 q] 47)).drew
  have HB := hid (blk_on (blk_new w 47 #[.int .i64 4, .int .i64 o, .int .i64 n, .string s, nv, .slice ka m kc, .int .i64 q]) (Below.refl _ _).drew)
  have H1 := hid (h1.on A)
  have HO := hid (On.start (S0 := fun b => S b ∧ b < w.heap.size) ⟨v, h1.on A⟩)
  have HF := hid (hF.on A)
  have HFS := hid hFS
  have HFl := hid hFl
  have HFv := hid hFv
  have HA := hid A
  have c0 : w.cell? ⟨l, 0, none⟩ = some (.pointer (some ⟨p, 0, none⟩)) := blk_cellZ h1.blk 0 rfl
  have hlw := blk_lt h1.blk
  have hne : l ≠ w.heap.size := by omega
  clear h A hF hFS hFl hFv h1 hFw
  go_enter Tryd.func87, Tryd.ntmps87
  go_wp2_with fail
  refine wp_region_held_drew (S := fun aZ => aZ.cell? ⟨l, 0, none⟩ = some (.pointer (some ⟨p, 0, none⟩)) ∧ aZ.cell? ⟨w.heap.size, 3, none⟩ = some (.string s)) (by kernel_rfl) ?_ (fun hHeld => ?_)
  · (refine ⟨?_, ?_⟩ <;> go_simp)
  refine tkk 0 ?_
  refine tkk 1 ?_
  refine tkk 2 ?_
  refine tkk 3 ?_
  refine tkk 4 ?_
  refine tkk 5 ?_
  refine tkk 6 ?_
  refine rdy 7 (fun K hK => ?_)
  go_simp
  refine (number_calls _ HF.out s hs hL).mono ?_
  rintro e w1 ⟨rfl, P1, K1⟩
  have A1 := hid (ly_num H1.out HF.out HFS.out HFl.out HFv.out P1 K1)
  clear P1 K1
  have O1 := hid (HO.out.step (J := I) (d := (ofT c.1 s, c.2)) ⟨⟨v, A1.out.1⟩, A1.out.2⟩)
  have e0 : w1.cell? ⟨l, 0, none⟩ = some (.pointer (some ⟨p, 0, none⟩)) := blk_cellZ A1.out.1.blk 0 rfl
  have e3 : w1.cell? ⟨w.heap.size, 3, none⟩ = some (.string s) := blk_cellZ (blk_keep HB.out O1.out.keep (fun q => by have := q.2; omega)) 3 rfl
  go_simp
  refine hK.out _ _ ?_ (fun _ => ?_)
  · (refine ⟨?_, ?_⟩ <;> (first | assumption | go_simp))
  clear hK K
  refine rdy 8 (fun K hK => ?_)
  go_simp
  refine (lay_calls _ O1.out.ly (by omega) _ _).mono ?_
  rintro e w2 ⟨rfl, G1⟩
  have O2 := hid (O1.out.step G1)
  obtain ⟨v2, L2⟩ := G1.1
  have z0 : w2.cell? ⟨l, 0, none⟩ = some (.pointer (some ⟨p, 0, none⟩)) := blk_cellZ L2.blk 0 rfl
  have z3 : w2.cell? ⟨w.heap.size, 3, none⟩ = some (.string s) := blk_cellZ (blk_keep HB.out O2.out.keep (fun q => by have := q.2; omega)) 3 rfl
  clear L2 G1
  go_simp
  refine hK.out _ _ ?_ (fun _ => ?_)
  · (refine ⟨?_, ?_⟩ <;> (first | assumption | go_simp))
  clear hK K
  refine wpAnyH_done (by kernel_rfl) ?_ _
  go_wp2_with fail
  go_end0
  exact ⟨rfl, O2.out.fin HA.out (fun b q => q.1)⟩
set_option maxHeartbeats 3200000 in
set_option maxRecDepth 100000 in
theorem done_text {S : Nat → Prop} {l p m kc : Nat} {I : List In} {c : Cs} (w : World) (h : LyS S l p I c w) (hl : I.length ≤ 900000) (o n q : Int) (s : ByteArray) (nv : Value) (ka : Option Addr) (hL : c.1.length ≤ 1000000) (hs : s.size ≤ maxLen) :
    Calls Tryd.prog 88 #[.pointer (some ⟨l, 0, none⟩), .agg #[.int .i64 25, .int .i64 o, .int .i64 n, .string s, nv, .slice ka m kc, .int .i64 q]] w fun e w' => e = .returned (.tuple #[]) ∧ Gone S l p (I ++ (endC 25 o n s m c).1) (endC 25 o n s m c).2 w w' := by
  have h0 := h.mono (T := fun b => S b ∧ b < w.heap.size) (fun b hb q => ⟨q, hb⟩)
  obtain ⟨v, h1⟩ := h0
  obtain ⟨F, hF, hFS, hFl, hFv, hFw⟩ := ly_tight h1
  have A := ((Below.refl w.heap.size w).alloc (Nat.le_refl _) (.cells #[.int .i64 25, .int .i64 o, .int .i64 n, .string s, nv, .slice ka m kc, .int .i64 q] 47)).drew
  have HB := hid (blk_on (blk_new w 47 #[.int .i64 25, .int .i64 o, .int .i64 n, .string s, nv, .slice ka m kc, .int .i64 q]) (Below.refl _ _).drew)
  have H1 := hid (h1.on A)
  have HO := hid (On.start (S0 := fun b => S b ∧ b < w.heap.size) ⟨v, h1.on A⟩)
  have HF := hid (hF.on A)
  have HFS := hid hFS
  have HFl := hid hFl
  have HFv := hid hFv
  have HA := hid A
  have c0 : w.cell? ⟨l, 0, none⟩ = some (.pointer (some ⟨p, 0, none⟩)) := blk_cellZ h1.blk 0 rfl
  have hlw := blk_lt h1.blk
  have hne : l ≠ w.heap.size := by omega
  clear h A hF hFS hFl hFv h1 hFw
  go_enter Tryd.func88, Tryd.ntmps88
  go_wp2_with fail
  refine wp_region_held_drew (S := fun aZ => aZ.cell? ⟨l, 0, none⟩ = some (.pointer (some ⟨p, 0, none⟩)) ∧ aZ.cell? ⟨w.heap.size, 3, none⟩ = some (.string s)) (by kernel_rfl) ?_ (fun hHeld => ?_)
  · (refine ⟨?_, ?_⟩ <;> go_simp)
  refine tkk 0 ?_
  refine tkk 1 ?_
  refine tkk 2 ?_
  refine tkk 3 ?_
  refine tkk 4 ?_
  refine tkk 5 ?_
  refine tkk 6 ?_
  refine rdy 7 (fun K hK => ?_)
  go_simp
  refine (number_calls _ HF.out s hs hL).mono ?_
  rintro e w1 ⟨rfl, P1, K1⟩
  have A1 := hid (ly_num H1.out HF.out HFS.out HFl.out HFv.out P1 K1)
  clear P1 K1
  have O1 := hid (HO.out.step (J := I) (d := (ofT c.1 s, c.2)) ⟨⟨v, A1.out.1⟩, A1.out.2⟩)
  have e0 : w1.cell? ⟨l, 0, none⟩ = some (.pointer (some ⟨p, 0, none⟩)) := blk_cellZ A1.out.1.blk 0 rfl
  have e3 : w1.cell? ⟨w.heap.size, 3, none⟩ = some (.string s) := blk_cellZ (blk_keep HB.out O1.out.keep (fun q => by have := q.2; omega)) 3 rfl
  go_simp
  refine hK.out _ _ ?_ (fun _ => ?_)
  · (refine ⟨?_, ?_⟩ <;> (first | assumption | go_simp))
  clear hK K
  refine rdy 8 (fun K hK => ?_)
  go_simp
  refine (lay_calls _ O1.out.ly (by omega) _ _).mono ?_
  rintro e w2 ⟨rfl, G1⟩
  have O2 := hid (O1.out.step G1)
  obtain ⟨v2, L2⟩ := G1.1
  have z0 : w2.cell? ⟨l, 0, none⟩ = some (.pointer (some ⟨p, 0, none⟩)) := blk_cellZ L2.blk 0 rfl
  have z3 : w2.cell? ⟨w.heap.size, 3, none⟩ = some (.string s) := blk_cellZ (blk_keep HB.out O2.out.keep (fun q => by have := q.2; omega)) 3 rfl
  clear L2 G1
  go_simp
  refine hK.out _ _ ?_ (fun _ => ?_)
  · (refine ⟨?_, ?_⟩ <;> (first | assumption | go_simp))
  clear hK K
  refine wpAnyH_done (by kernel_rfl) ?_ _
  go_wp2_with fail
  go_end0
  exact ⟨rfl, O2.out.fin HA.out (fun b q => q.1)⟩
set_option maxHeartbeats 3200000 in
set_option maxRecDepth 100000 in
theorem done_none {S : Nat → Prop} {l p m kc : Nat} {I : List In} {c : Cs} (w : World) (h : LyS S l p I c w) (o n q : Int) (s : ByteArray) (nv : Value) (ka : Option Addr)  :
    Calls Tryd.prog 88 #[.pointer (some ⟨l, 0, none⟩), .agg #[.int .i64 29, .int .i64 o, .int .i64 n, .string s, nv, .slice ka m kc, .int .i64 q]] w fun e w' => e = .returned (.tuple #[]) ∧ Gone S l p (I ++ (endC 29 o n s m c).1) (endC 29 o n s m c).2 w w' := by
  have A := (Below.refl w.heap.size w).alloc (Nat.le_refl _) (.cells #[.int .i64 29, .int .i64 o, .int .i64 n, .string s, nv, .slice ka m kc, .int .i64 q] 47)
  have H := hid (h.on A)
  have HA := hid A
  clear h A
  go_enter Tryd.func88, Tryd.ntmps88
  go_wp2_with fail
  go_end0
  exact ⟨rfl, by rw [show (endC 29 o n s m c).1 = [] from rfl, List.append_nil]; exact Gone.pre HA.out ⟨H.out.mono (fun _ _ q => .inl q), Keep.refl _ _⟩⟩

set_option maxHeartbeats 1600000 in
theorem behind_1 {l : Nat} {P : Ending → World → Prop} (w : World) (k o n q : Int) (s : ByteArray) (nv kv : Value) (hk : k ≤ 20)
    (C : Hid (Calls Tryd.prog 87 #[.pointer (some ⟨l, 0, none⟩), .agg #[.int .i64 k, .int .i64 o, .int .i64 n, .string s, nv, kv, .int .i64 q]] (w.alloc (.cells #[.int .i64 k, .int .i64 o, .int .i64 n, .string s, nv, kv, .int .i64 q] 47)) fun e w' => e = .returned (.tuple #[]) ∧ P e w')) (hkv : ∃ a m c, kv = .slice a m c) (hnv : ∃ a m c, nv = .slice a m c) :
    Calls Tryd.prog 72 #[.pointer (some ⟨l, 0, none⟩), .agg #[.int .i64 k, .int .i64 o, .int .i64 n, .string s, nv, kv, .int .i64 q]] w fun e w' => e = .returned (.tuple #[]) ∧ P e w' := by
  obtain ⟨a, m, cc, rfl⟩ := hkv
  obtain ⟨a', m', cc', rfl⟩ := hnv
  have hd : decide (k ≤ 20) = true := decide_eq_true hk
  go_enter Tryd.func72, Tryd.ntmps72
  go_wp2_with fail
  refine C.out.mono ?_
  rintro e w1 ⟨rfl, G1⟩
  have G := hid G1
  clear G1
  go_wp2_with fail
  exact bodyPost_ret (results_none (by rfl) _ _ _) rfl ⟨rfl, G.out⟩
set_option maxHeartbeats 1600000 in
theorem behind_2 {l : Nat} {P : Ending → World → Prop} (w : World) (k o n q : Int) (s : ByteArray) (nv kv : Value) (hk : 20 < k)
    (C : Hid (Calls Tryd.prog 88 #[.pointer (some ⟨l, 0, none⟩), .agg #[.int .i64 k, .int .i64 o, .int .i64 n, .string s, nv, kv, .int .i64 q]] (w.alloc (.cells #[.int .i64 k, .int .i64 o, .int .i64 n, .string s, nv, kv, .int .i64 q] 47)) fun e w' => e = .returned (.tuple #[]) ∧ P e w')) (hkv : ∃ a m c, kv = .slice a m c) (hnv : ∃ a m c, nv = .slice a m c) :
    Calls Tryd.prog 72 #[.pointer (some ⟨l, 0, none⟩), .agg #[.int .i64 k, .int .i64 o, .int .i64 n, .string s, nv, kv, .int .i64 q]] w fun e w' => e = .returned (.tuple #[]) ∧ P e w' := by
  obtain ⟨a, m, cc, rfl⟩ := hkv
  obtain ⟨a', m', cc', rfl⟩ := hnv
  have hd : decide (k ≤ 20) = false := decide_eq_false (by omega)
  go_enter Tryd.func72, Tryd.ntmps72
  go_wp2_with fail
  refine C.out.mono ?_
  rintro e w1 ⟨rfl, G1⟩
  have G := hid G1
  clear G1
  go_wp2_with fail
  go_end0
  exact ⟨rfl, G.out⟩
def endK (k : Int) : Prop := layK k ∨ layD k ∨ k = 13 ∨ k = 23 ∨ k = 4 ∨ k = 25 ∨ k = 29
theorem behind_calls {S : Nat → Prop} {l p m kc : Nat} {I : List In} {c : Cs} (w : World) (h : LyS S l p I c w) (hl : I.length ≤ 900000) (k o n q : Int) (s : ByteArray) (nv : Value) (ka : Option Addr) (hm : m ≤ 1000) (hk : endK k) (hL : c.1.length ≤ 1000000) (hc0 : 0 ≤ c.2) (hc1 : c.2 ≤ 1000000) (hs : s.size ≤ maxLen) (hnv : ∃ a m c, nv = .slice a m c) :
    Calls Tryd.prog 72 #[.pointer (some ⟨l, 0, none⟩), .agg #[.int .i64 k, .int .i64 o, .int .i64 n, .string s, nv, .slice ka m kc, .int .i64 q]] w fun e w' => e = .returned (.tuple #[]) ∧ Gone S l p (I ++ (endC k o n s m c).1) (endC k o n s m c).2 w w' := by
  have A := (Below.refl w.heap.size w).alloc (Nat.le_refl _) (.cells #[.int .i64 k, .int .i64 o, .int .i64 n, .string s, nv, .slice ka m kc, .int .i64 q] 47)
  have H := h.on A
  have key : ∀ {J d e w'}, e = Ending.returned (.tuple #[]) ∧ Gone S l p J d (w.alloc (.cells #[.int .i64 k, .int .i64 o, .int .i64 n, .string s, nv, .slice ka m kc, .int .i64 q] 47)) w' → e = Ending.returned (.tuple #[]) ∧ Gone S l p J d w w' := fun h => ⟨h.1, h.2.pre A⟩
  have K1 : k ≤ 20 → _ := fun h1 C => (behind_1 (l := l) (P := fun _ w' => Gone S l p (I ++ (endC k o n s m c).1) (endC k o n s m c).2 (w.alloc (.cells #[.int .i64 k, .int .i64 o, .int .i64 n, .string s, nv, .slice ka m kc, .int .i64 q] 47)) w') w k o n q s nv (.slice ka m kc) h1 C ⟨_, _, _, rfl⟩ hnv).mono fun e w' h => key h
  have K2 : 20 < k → _ := fun h1 C => (behind_2 (l := l) (P := fun _ w' => Gone S l p (I ++ (endC k o n s m c).1) (endC k o n s m c).2 (w.alloc (.cells #[.int .i64 k, .int .i64 o, .int .i64 n, .string s, nv, .slice ka m kc, .int .i64 q] 47)) w') w k o n q s nv (.slice ka m kc) h1 C ⟨_, _, _, rfl⟩ hnv).mono fun e w' h => key h
  rcases hk with hk | hk | rfl | rfl | rfl | rfl | rfl
  · exact K1 (by unfold layK at hk; omega) (hid (worked_lay _ H hl k o n q s nv ka hm hk))
  · exact K2 (by unfold layD at hk; omega) (hid (done_lay _ H hl k o n q s nv ka hk))
  · exact K1 (by decide) (hid (worked_site _ H hl o n q s nv ka hL hc0 hc1 hs))
  · exact K2 (by decide) (hid (done_site _ H hl o n q s nv ka hL hc0 hc1 hs))
  · exact K1 (by decide) (hid (worked_text _ H hl o n q s nv ka hL hs))
  · exact K2 (by decide) (hid (done_text _ H hl o n q s nv ka hL hs))
  · exact K2 (by decide) (hid (done_none _ H o n q s nv ka))
end Go.Proofs.YtgdbaceehpcgbaaDoor
