/- A property more, one less, another prototype: of dictionaries. -/
import Derived.Test.YtimhgbcanmgajaaGreatJoint2
import Derived.Test.YtimhgbcanmgajaaGreatHpObj2
namespace Go.Proofs.YtimhgbcanmgajaaGreat
set_option linter.unusedSimpArgs false
set_option maxRecDepth 100000
open Go.RowKit

theorem ta_ds (q : Nat) (w : World) : (Instr.typeAssert (.iface 199 (.pointer (some ⟨q, 0, none⟩))) 132 161 true).run Tryz.prog w = .ok (.tuple #[.pointer none, .bool false]) w := by kernel_rfl
theorem ta_dd (q : Nat) (w : World) : (Instr.typeAssert (.iface 199 (.pointer (some ⟨q, 0, none⟩))) 132 199 true).run Tryz.prog w = .ok (.tuple #[.pointer (some ⟨q, 0, none⟩), .bool true]) w := by kernel_rfl
theorem ta_ss (q : Nat) (w : World) : (Instr.typeAssert (.iface 161 (.pointer (some ⟨q, 0, none⟩))) 132 161 true).run Tryz.prog w = .ok (.tuple #[.pointer (some ⟨q, 0, none⟩), .bool true]) w := by kernel_rfl

set_option maxHeartbeats 1000000 in
theorem with_dict {S : Nat → Prop} {pr : Int} {l : List Ent} {q n : Nat} (w : World) (h : DiS S pr l q n w) (hn : n ≤ 1000000) (s : ByteArray) (hs : s.size ≤ 1000000) (x : Vl) :
    Calls Tryz.prog 64 #[.iface 199 (.pointer (some ⟨q, 0, none⟩)), .string s, vlV x] w fun e w' => e = .returned (.iface 199 (.pointer (some ⟨q, 0, none⟩))) ∧ DiS (Up S w) pr (setL l s x) q (n + 1) w' ∧ Keep S w w' := by
  obtain ⟨d, h1, h2, h3⟩ := h
  have c1 : w.cell? ⟨q, 1, none⟩ = some (.pointer (some ⟨d, 0, none⟩)) := by rw [blk_cell h1]; rfl
  have hq := blk_lt h1
  have hqn : q ≠ w.heap.size := by omega
  have A := ((Below.refl w.heap.size w).alloc (Nat.le_refl _) (Obj.cells #[.int .i64 x.1, .int .i64 x.2.1, .string x.2.2] 37)).drew
  have HS := hid (dset_calls _ ((h2.mono (T := fun b => (S b ∧ b ≠ q) ∧ b < w.heap.size) (fun b hb h => ⟨h, hb⟩) (Nat.le_refl _)).on A) hn s hs x)
  unfold vlV at HS ⊢
  have HA := hid A
  have HB := hid h1
  have HQ := hid h3
  clear h1 h2 h3 A
  have t1 := ta_ds q
  have t2 := ta_dd q
  go_enter Tryz.func64, Tryz.ntmps64
  go_wp2_with fail
  refine wp_region_held_drew (S := fun aZ => aZ.cell? ⟨q, 1, none⟩ = some (.pointer (some ⟨d, 0, none⟩)) ∧ aZ.cell? ⟨w.heap.size, 0, none⟩ = some (.int .i64 x.1) ∧ aZ.cell? ⟨w.heap.size, 1, none⟩ = some (.int .i64 x.2.1) ∧ aZ.cell? ⟨w.heap.size, 2, none⟩ = some (.string x.2.2)) (by kernel_rfl) ?_ (fun hHeld => ?_)
  · (refine ⟨?_, ?_, ?_, ?_⟩ <;> go_simp)
  refine tkk 0 ?_
  refine tkk 1 ?_
  refine tkk 2 ?_
  refine tkk 3 ?_
  refine tkk 4 ?_
  refine tkk 5 ?_
  refine rdy 6 (fun K hK => ?_)
  go_simp
  refine HS.out.mono ?_
  rintro e3 w3 ⟨rfl, h3, k3⟩
  have hz : w.heap.size < ((w.alloc (Obj.cells #[.int .i64 x.1, .int .i64 x.2.1, .string x.2.2] 37)).drew).heap.size := by simp
  have R : Hid (DiS (Up S w) pr (setL l s x) q (n + 1) w3 ∧ Keep S w w3) := by
    refine hid ⟨⟨d, blk_keep (blk_on HB.out HA.out) k3 (fun h => h.1.2 rfl), h3.mono (fun b _ h => ?_) (Nat.le_refl _), .inl HQ.out⟩, (Keep.of HA.out).trans k3 (fun b _ h => h.1.1)⟩
    rcases h with h | h
    · exact ⟨.inl h.1.1, h.1.2⟩
    · exact ⟨.inr (by omega), by omega⟩
  have y0 := hcell_keep (c := w3) (a := (w.alloc (Obj.cells #[.int .i64 x.1, .int .i64 x.2.1, .string x.2.2] 37)).drew) (g := q) (i := 1) (v := .pointer (some ⟨d, 0, none⟩)) (by go_simp) (by simp; omega) k3 (fun h => h.1.2 rfl)
  have y1 := hcell_keep (c := w3) (a := (w.alloc (Obj.cells #[.int .i64 x.1, .int .i64 x.2.1, .string x.2.2] 37)).drew) (g := w.heap.size) (i := 0) (v := .int .i64 x.1) (by go_simp) hz k3 (fun h => Nat.lt_irrefl _ h.2)
  have y2 := hcell_keep (c := w3) (a := (w.alloc (Obj.cells #[.int .i64 x.1, .int .i64 x.2.1, .string x.2.2] 37)).drew) (g := w.heap.size) (i := 1) (v := .int .i64 x.2.1) (by go_simp) hz k3 (fun h => Nat.lt_irrefl _ h.2)
  have y3 := hcell_keep (c := w3) (a := (w.alloc (Obj.cells #[.int .i64 x.1, .int .i64 x.2.1, .string x.2.2] 37)).drew) (g := w.heap.size) (i := 2) (v := .string x.2.2) (by go_simp) hz k3 (fun h => Nat.lt_irrefl _ h.2)
  clear h3 k3
  go_simp
  refine hK.out _ _ ?_ (fun _ => ?_)
  · (refine ⟨?_, ?_, ?_, ?_⟩ <;> (first | assumption | go_simp))
  clear hK K
  refine wpAnyH_done (by kernel_rfl) ?_ _
  go_wp2_with fail
  go_ret
  exact ⟨rfl, R.out⟩
theorem without_dict {S : Nat → Prop} {pr : Int} {l : List Ent} {q n : Nat} (w : World) (h : DiS S pr l q n w) (hn : n ≤ 1000000) (s : ByteArray) (hs : s.size ≤ 1000000) :
    Calls Tryz.prog 65 #[.iface 199 (.pointer (some ⟨q, 0, none⟩)), .string s] w fun e w' => e = .returned (.iface 199 (.pointer (some ⟨q, 0, none⟩))) ∧ DiS (Up S w) pr (dropL l s) q n w' ∧ Keep S w w' := by
  obtain ⟨d, h1, h2, h3⟩ := h
  have c1 : w.cell? ⟨q, 1, none⟩ = some (.pointer (some ⟨d, 0, none⟩)) := by rw [blk_cell h1]; rfl
  have HS := hid (ddel_calls w h2 hn s hs)
  have HB := hid h1
  have HQ := hid h3
  clear h1 h2 h3
  have t1 := ta_ds q
  have t2 := ta_dd q
  go_enter Tryz.func65, Tryz.ntmps65
  go_wp2_with fail
  refine HS.out.mono ?_
  rintro e3 w3 ⟨rfl, h3, k3⟩
  have R := hid (DiS.of HB.out HQ.out h3 k3)
  clear h3 k3
  go_wp2_with fail
  go_ret
  exact ⟨rfl, R.out⟩
theorem under_dict {S : Nat → Prop} {pr : Int} {l : List Ent} {q n : Nat} (w : World) (h : DiS S pr l q n w) (p : Int) :
    Calls Tryz.prog 67 #[.iface 199 (.pointer (some ⟨q, 0, none⟩)), .int .i64 p] w fun e w' => e = .returned (.iface 199 (.pointer (some ⟨q, 0, none⟩))) ∧ DiS S p l q n w' ∧ Keep S w w' := by
  obtain ⟨d, h1, h2, h3⟩ := h
  have c0 : w.cell? ⟨q, 0, none⟩ = some (.int .i64 pr) := by rw [blk_cell h1]; rfl
  have f0 := blk_free h1 0
  have hq := blk_lt h1
  have R : Hid (DiS S p l q n (w.setCell ⟨q, 0, none⟩ (.int .i64 p)) ∧ Keep S w (w.setCell ⟨q, 0, none⟩ (.int .i64 p))) :=
    hid ⟨⟨d, blk_set h1 0 (.int .i64 p), h2.keep (Keep.set (S := fun b => b = q) rfl w 0 _) (fun b _ h e => h.2 e), h3⟩, Keep.set h3 w 0 _⟩
  clear h1 h2 h3
  have t1 := ta_ds q
  have t2 := ta_dd q
  go_enter Tryz.func67, Tryz.ntmps67
  go_wp2_with fail
  go_ret
  exact ⟨rfl, R.out⟩

/-- what was written, by colours, and how new blocks are coloured -/
structure Grew (P : Nat → Prop) (col col' : Nat → Nat) (w w' : World) : Prop where
  old : ∀ b, b < w.heap.size → col' b = col b
  top : ∀ b, w'.heap.size ≤ b → col' b = 0
  keep : Keep (fun b => P (col b)) w w'
theorem Grew.trans {P : Nat → Prop} {c1 c2 c3 : Nat → Nat} {a b c : World} (h : Grew P c1 c2 a b) (k : Grew P c2 c3 b c) : Grew P c1 c3 a c :=
  ⟨fun x hx => (k.old x (Nat.lt_of_lt_of_le hx h.keep.size)).trans (h.old x hx), k.top, h.keep.trans k.keep (fun x hx e => by rw [← h.old x hx]; exact e)⟩
theorem Grew.mono {P Q : Nat → Prop} {c1 c2 : Nat → Nat} {a b : World} (h : Grew P c1 c2 a b) (hp : ∀ t, P t → Q t) : Grew Q c1 c2 a b := ⟨h.old, h.top, h.keep.mono (fun _ _ e => hp _ e)⟩
theorem Grew.below {P : Nat → Prop} {c1 : Nat → Nat} {a b : World} (k : Below a.heap.size a b) (ht : ∀ y, a.heap.size ≤ y → c1 y = 0) : Grew P c1 c1 a b := ⟨fun _ _ => rfl, fun x hx => ht x (Nat.le_trans k.size hx), Keep.of k⟩
/-- new blocks are of colour t -/
def ext (col : Nat → Nat) (n m t : Nat) (b : Nat) : Nat := if b < n then col b else if b < m then t else 0
theorem ext_old {col : Nat → Nat} {n m t b : Nat} (h : b < n) : ext col n m t b = col b := by unfold ext; rw [if_pos h]
theorem grew_ext {col : Nat → Nat} {t : Nat} {w w' : World} (k : Keep (fun b => col b = t) w w') : Grew (fun u => u = t) col (ext col w.heap.size w'.heap.size t) w w' :=
  ⟨fun b hb => ext_old hb, fun b hb => by have := k.size; unfold ext; rw [if_neg (by omega), if_neg (by omega)], k⟩
theorem ext_new {col : Nat → Nat} {n m t b : Nat} (hb : b < m) (h : col b = t ∨ n ≤ b) : ext col n m t b = t := by
  unfold ext
  by_cases h1 : b < n
  · rw [if_pos h1]
    rcases h with h | h
    · exact h
    · omega
  · rw [if_neg h1, if_pos hb]

/-- as an object is kept: of slots or of a dictionary, in the blocks of S -/
def KeptO (K c : Nat) (x : Ob) (q : Nat) (S : Nat → Prop) (w : World) : Prop :=
  (x.sh ≠ 0 ∧ ∃ v, SlAt c x.sh x.l q v w ∧ ∀ b, FtL q v b → S b) ∨ (x.sh = 0 ∧ ∃ n, DiS S x.pr x.l q n w ∧ n ≤ K + 12)
def ivO (x : Ob) (q : Nat) : Value := if x.sh = 0 then .iface 199 (.pointer (some ⟨q, 0, none⟩)) else .iface 161 (.pointer (some ⟨q, 0, none⟩))
theorem KeptO.mono {K J c q : Nat} {x : Ob} {S T : Nat → Prop} {w : World} (h : KeptO K c x q S w) (hS : ∀ b, b < w.heap.size → S b → T b) (hK : K ≤ J) : KeptO J c x q T w := by
  rcases h with ⟨h0, v, h1, h2⟩ | ⟨h0, n, h1, h2⟩
  · exact .inl ⟨h0, v, h1, fun b hb => hS b (h1.lt hb) (h2 b hb)⟩
  · exact .inr ⟨h0, n, h1.mono hS (Nat.le_refl _), by omega⟩
theorem KeptO.keep {K c q : Nat} {x : Ob} {S T : Nat → Prop} {a b : World} (h : KeptO K c x q S a) (k : Keep T a b) (hT : ∀ b, b < a.heap.size → S b → ¬ T b) : KeptO K c x q S b := by
  rcases h with ⟨h0, v, h1, h2⟩ | ⟨h0, n, h1, h2⟩
  · exact .inl ⟨h0, v, h1.keep (fun b hb => k.block b (h1.lt hb) (hT b (h1.lt hb) (h2 b hb))), h2⟩
  · exact .inr ⟨h0, n, h1.keep k hT, h2⟩
theorem KeptO.on {K c q : Nat} {x : Ob} {S : Nat → Prop} {a b : World} (h : KeptO K c x q S a) (k : Below a.heap.size a b) : KeptO K c x q S b := h.keep (T := fun _ => False) (Keep.of k) (fun _ _ _ h => h)
theorem KeptO.lt {K c q : Nat} {x : Ob} {S : Nat → Prop} {w : World} (h : KeptO K c x q S w) : q < w.heap.size := by
  rcases h with ⟨h0, v, h1, h2⟩ | ⟨h0, n, ⟨d, h1, _⟩, h2⟩
  · exact blk_lt h1.blk
  · exact blk_lt h1
/-- an object that another one's change leaves alone -/
theorem KeptO.grew {P : Nat → Prop} {K c q t : Nat} {x : Ob} {col col' : Nat → Nat} {a b : World} (h : KeptO K c x q (fun b => col b = t) a) (g : Grew P col col' a b) (ht : ¬ P t) : KeptO K c x q (fun b => col' b = t) b :=
  (h.mono (T := fun b => col' b = t) (fun b hb e => (g.old b hb).trans e) (Nat.le_refl _)).keep g.keep (fun b hb e hp => ht (by rw [← e, g.old b hb]; exact hp))
theorem Cls.grew {P : Nat → Prop} {H : He} {c n f : Nat} {col col' : Nat → Nat} {a b : World} (h : Cls H c n f col a) (hc : ¬ P (col c)) (g : Grew P col col' a b) (h2 : ¬ P 2) (h3 : ¬ P 3) : Cls H c n f col' b :=
  (h.mono (col' := col') (fun b hb => g.old b hb)).keep g.keep hc (fun x hx e hp => by
    rw [g.old x hx] at e
    rcases e with e | e
    · exact h2 (e ▸ hp)
    · exact h3 (e ▸ hp))

set_option maxHeartbeats 1000000 in
theorem cnext_calls {H : He} {c n f : Nat} {col : Nat → Nat} (w : World) (h : Cls H c n f col w) (hc : col c = 1) (ht : ∀ b, w.heap.size ≤ b → col b = 0) (hl : H.N.length ≤ 1000000) (id : Int) (s : ByteArray) (hs : s.size ≤ 1000000) :
    Calls Tryz.prog 114 #[.pointer (some ⟨c, 0, none⟩), .int .i64 id, .string s] w fun e w' => e = .returned (.int .i64 (nextN H id s : Int)) ∧ ∃ col', Cls (nextH H id s) c n f col' w' ∧ Grew (fun u => u = 2 ∨ u = 3) col col' w w' := by
  obtain ⟨c0, c1, hcl⟩ := h.cells
  have HP := hid (fproto_calls w h.fo id)
  cases hg : getS H.L id with
  | none =>
    rw [show nextN H id s = 0 by unfold nextN; rw [hg], show nextH H id s = H by unfold nextH; rw [hg]]
    rw [hg] at HP
    have R := hid (show ∃ col', Cls H c n f col' w ∧ Grew (fun u => u = 2 ∨ u = 3) col col' w w from ⟨col, h, Grew.below (Below.refl _ _) ht⟩)
    clear h
    generalize protoF H.L id = z at *
    go_enter Tryz.func114, Tryz.ntmps114
    go_wp2_with fail
    refine HP.out.mono ?_
    rintro e1 w1 ⟨rfl, rfl⟩
    go_wp2_with fail
    go_ret
    exact ⟨rfl, R.out⟩
  | some y =>
    rw [show nextN H id s = addN H.M H.L id (numT H.N s : Int) by unfold nextN; rw [hg], show nextH H id s = { H with N := ofT H.N s, L := addL H.M H.L id (numT H.N s : Int) } by unfold nextH; rw [hg]]
    rw [hg] at HP
    have D := (Below.refl w.heap.size w).drew
    have HO := hid (tof_calls w.drew (h.nm.on D) s (by unfold maxLen; omega) hl)
    have HF := hid (h.fo.on D)
    have HB := hid (blk_on h.blk D)
    have hI : Hid (I64 (numT H.N s : Int)) := hid (by have := ofT_at H.N s; have := (ofT_len H.N s).1; unfold I64; omega)
    have HT := hid ht
    have hcc := hid hc
    clear h D hg ht hc
    generalize protoF H.L id = z at *
    generalize (numT H.N s : Int) = m at *
    go_enter Tryz.func114, Tryz.ntmps114
    go_wp2_with fail
    refine HP.out.mono ?_
    rintro e1 w1 ⟨rfl, rfl⟩
    go_wp2_with fail
    refine wp_region_held_drew (S := fun aZ => aZ.cell? ⟨c, 0, none⟩ = some (.pointer (some ⟨n, 0, none⟩)) ∧ aZ.cell? ⟨c, 1, none⟩ = some (.pointer (some ⟨f, 0, none⟩))) (by kernel_rfl) ?_ (fun hHeld => ?_)
    · (refine ⟨?_, ?_⟩ <;> go_simp)
    refine tkk 0 ?_
    refine tkk 1 ?_
    refine tkk 2 ?_
    refine tkk 3 ?_
    refine tkk 4 ?_
    refine tkk 5 ?_
    refine tkk 6 ?_
    refine tkk 7 ?_
    refine tkk 8 ?_
    refine tkk 9 ?_
    refine rdy 10 (fun K hK => ?_)
    go_simp
    refine HO.out.mono ?_
    rintro e2 w2 ⟨rfl, h2, k2⟩
    have hz2 : w1.heap.size ≤ w2.heap.size := k2.size
    have G2 : Grew (fun u => u = 2) col (ext col w1.heap.size w2.heap.size 2) w1 w2 := ⟨(grew_ext k2).old, (grew_ext k2).top, ⟨k2.os, k2.tape, k2.output, k2.size, k2.block⟩⟩
    have F2 := hid (show FoS (fun b => ext col w1.heap.size w2.heap.size 2 b = 3) f H.M H.L w2 from (HF.out.mono (T := fun b => ext col w1.heap.size w2.heap.size 2 b = 3) (fun b hb e => (ext_old hb).trans e)).keep k2 (fun b hb e h => by have h' : col b = 2 := h; have hb' : b < w1.heap.size := hb; rw [ext_old hb', h'] at e; cases e))
    have N2 := hid (h2.mono (T := fun b => ext col w1.heap.size w2.heap.size 2 b = 2) (fun b hb e => ext_new hb e))
    have B2 := hid (blk_keep HB.out k2 (fun h => by rw [hcc.out] at h; cases h))
    have HG2 := hid G2
    have c0 := hcell_keep (c := w2) (a := w1.drew) c0 hcl k2 (fun h => by rw [hcc.out] at h; cases h)
    have c1 := hcell_keep (c := w2) (a := w1.drew) c1 hcl k2 (fun h => by rw [hcc.out] at h; cases h)
    have HA := hid (fadd_calls w2 F2.out id m hI.out)
    have hc2 : c < w2.heap.size := Nat.lt_of_lt_of_le hcl hz2
    clear h2 k2 G2 HO HF HB
    go_simp
    refine hK.out _ _ ?_ (fun _ => ?_)
    · (refine ⟨?_, ?_⟩ <;> (first | assumption | go_simp))
    clear hK K
    refine rdy 11 (fun K hK => ?_)
    go_simp
    refine HA.out.mono ?_
    rintro e3 w3 ⟨rfl, h3, k3⟩
    have G3 := grew_ext k3
    have F3 := h3.mono (T := fun b => ext (ext col w1.heap.size w2.heap.size 2) w2.heap.size w3.heap.size 3 b = 3) (fun b hb e => ext_new hb e)
    have N3 := (N2.out.mono (T := fun b => ext (ext col w1.heap.size w2.heap.size 2) w2.heap.size w3.heap.size 3 b = 2) (fun b hb e => (ext_old hb).trans e)).keep k3 (fun b hb e h => by rw [ext_old hb, h] at e; cases e)
    have hc3 : ¬ ext col w1.heap.size w2.heap.size 2 c = 3 := by rw [ext_old hcl, hcc.out]; decide
    have R := hid (show ∃ col', Cls { H with N := ofT H.N s, L := addL H.M H.L id m } c n f col' w3 ∧ Grew (fun u => u = 2 ∨ u = 3) col col' w1 w3 from ⟨_, ⟨blk_keep B2.out k3 hc3, N3, F3⟩, (HG2.out.mono (fun _ e => .inl e)).trans (G3.mono (fun _ e => .inr e))⟩)
    have c0 := hcell_keep c0 hc2 k3 hc3
    have c1 := hcell_keep c1 hc2 k3 hc3
    clear h3 k3 G3 F3 N3 HA
    go_simp
    refine hK.out _ _ ?_ (fun _ => ?_)
    · (refine ⟨?_, ?_⟩ <;> (first | assumption | go_simp))
    clear hK K
    refine tkk 12 ?_
    refine wpAnyH_done (by kernel_rfl) ?_ _
    go_wp2_with fail
    go_ret
    exact ⟨rfl, R.out⟩

theorem Named.more {H H' : He} {sh : Int} {l : List Ent} {y : Sh} (h : Named H sh l) (hg : getS H.L sh = some y) (hL : ∀ (i : Nat) (s : Sh), H.L[i]? = some s → H'.L[i]? = some s) (hT : ∀ (i : Nat) (s : ByteArray), H.N[i]? = some s → H'.N[i]? = some s) (hn : H'.N.length ≤ 1000000) :
    Named H' sh l ∧ protoF H'.L sh = protoF H.L sh := by
  obtain ⟨i, rfl, hi⟩ := getS_some hg
  have hg' : getS H'.L ((i + 1 : Nat) : Int) = some y := by rw [getS_succ]; exact hL i y hi
  have e1 : namesF H'.L ((i + 1 : Nat) : Int) = namesF H.L ((i + 1 : Nat) : Int) := by unfold namesF; rw [hg, hg']
  have hlen : H.N.length ≤ H'.N.length := by
    by_cases h0 : H.N.length = 0
    · omega
    · have := lt_of_get (hT (H.N.length - 1) _ (List.getElem?_eq_getElem (by omega)))
      omega
  refine ⟨⟨?_, ?_, hn⟩, by unfold protoF; rw [hg, hg']⟩
  · rw [e1, h.nm]
    refine List.map_congr_left (fun x hx => ?_)
    have hb := h.nums x hx
    obtain ⟨j, rfl⟩ : ∃ j : Nat, x = ((j + 1 : Nat) : Int) := ⟨(x - 1).toNat, by omega⟩
    have hj : j < H.N.length := by omega
    have h2 := List.getElem?_eq_getElem hj
    rw [textN_at h2, textN_at (hT j _ h2)]
  · intro x hx
    rw [e1] at hx
    have := h.nums x hx
    omega
theorem next_stay {H : He} {id : Int} {s : ByteArray} : (∀ (i : Nat) (y : Sh), H.L[i]? = some y → (nextH H id s).L[i]? = some y) ∧ (∀ (i : Nat) (y : ByteArray), H.N[i]? = some y → (nextH H id s).N[i]? = some y) ∧ (nextH H id s).N.length ≤ H.N.length + 1 ∧ (nextH H id s).M = H.M ∧ (nextH H id s).os = H.os := by
  unfold nextH
  cases getS H.L id with
  | none => exact ⟨fun _ _ h => h, fun _ _ h => h, Nat.le_succ _, rfl, rfl⟩
  | some y => exact ⟨fun _ _ h => addL_stay h, fun _ _ h => ofT_get h, (ofT_len _ _).1, rfl, rfl⟩
/-- what a call on an object as it is kept comes to -/
def Turned (K : Nat) (H' : He) (c n f t : Nat) (x' : Ob) (col : Nat → Nat) (w : World) (e : Ending) (w' : World) : Prop :=
  ∃ q' col', e = .returned (ivO x' q') ∧ Cls H' c n f col' w' ∧ KeptO K c x' q' (fun b => col' b = t) w' ∧ Grew (fun u => u = 2 ∨ u = 3 ∨ u = t) col col' w w'

end Go.Proofs.YtimhgbcanmgajaaGreat
