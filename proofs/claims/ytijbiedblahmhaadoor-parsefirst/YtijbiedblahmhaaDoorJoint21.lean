/- What is made of a text, by either rule. Parse. -/
import Derived.Test.YtijbiedblahmhaaDoorPsRule
import Derived.Deep.Cut
namespace Go.Proofs.YtijbiedblahmhaaDoor
open Go.RowKit

/-- what a text is read as, in memory -/
def Whole (w : World) (o : Nd × Int × Int) (e : Ending) (w' : World) : Prop := ∃ nv kv, e = .returned (.tuple #[ndv o.1 nv kv, .int .i64 o.2.1, .int .i64 o.2.2]) ∧ NdR w.heap.size w' o.1 nv kv ∧ Below w.heap.size w w'
/-- what is made of what a rule reads -/
def wholeO : PR → Nd × Int × Int
  | .bad l => (ndZ, (cur l).pl, 12)
  | .ok t _ l => if (cur l).kind = 6 then (if 12 < highN t then (ndZ, 0, 13) else (t, 0, 0)) else (ndZ, (cur l).pl, 12)
theorem wholeO_ok (t : Nd) (b : Bool) (l : List Tok) : wholeO (.ok t b l) = if (cur l).kind = 6 then (if 12 < highN t then (ndZ, 0, 13) else (t, 0, 0)) else (ndZ, (cur l).pl, 12) := rfl
theorem ndZ_in {lo : Nat} {w : World} : NdR lo w ndZ (.slice none 0 0) (.slice none 0 0) := ndR_mk2 ⟨st_nil, kd_nil⟩

set_option maxRecDepth 100000 in
set_option maxHeartbeats 6400000 in
theorem whole_err (s : ByteArray) (hs : s.size ≤ 1000000) (rr : Value) (w : World) (h0 : 0 < w.heap.size) (SG : Hid (Texts 0 sgnL w)) (he : (tokOut s).2.2 ≠ 0) :
    Calls Tryd.prog 6 #[.string s, rr] w (Whole w (ndZ, (tokOut s).2.1, (tokOut s).2.2)) := by
  have A1 := (Below.refl _ w).alloc (Nat.le_refl _) (.cells #[.int .i64 0, .int .i64 0, .int .i64 0, .string ⟨#[]⟩, .slice none 0 0, .slice none 0 0, .int .i64 0] 26)
  have A2 := (Below.refl _ (w.alloc (.cells #[.int .i64 0, .int .i64 0, .int .i64 0, .string ⟨#[]⟩, .slice none 0 0, .slice none 0 0, .int .i64 0] 26))).alloc (Nat.le_refl _) (.cells #[.int .i64 0] 3)
  have A3 := (Below.refl _ ((w.alloc (.cells #[.int .i64 0, .int .i64 0, .int .i64 0, .string ⟨#[]⟩, .slice none 0 0, .slice none 0 0, .int .i64 0] 26)).alloc (.cells #[.int .i64 0] 3))).alloc (Nat.le_refl _) (.cells #[.int .i64 0] 27)
  have N0 := hid (blk_on (blk_on (blk_new w 26 #[.int .i64 0, .int .i64 0, .int .i64 0, .string ⟨#[]⟩, .slice none 0 0, .slice none 0 0, .int .i64 0]) A2) A3)
  have T0 := hid (show Blk (w.heap.size + 1) 3 #[.int .i64 0] (((w.alloc (.cells #[.int .i64 0, .int .i64 0, .int .i64 0, .string ⟨#[]⟩, .slice none 0 0, .slice none 0 0, .int .i64 0] 26)).alloc (.cells #[.int .i64 0] 3)).alloc (.cells #[.int .i64 0] 27)) from by
    have := blk_on (blk_new (w.alloc (.cells #[.int .i64 0, .int .i64 0, .int .i64 0, .string ⟨#[]⟩, .slice none 0 0, .slice none 0 0, .int .i64 0] 26)) 3 #[.int .i64 0]) A3
    simpa using this)
  have E0 := hid (show Blk (w.heap.size + 1 + 1) 27 #[.int .i64 0] (((w.alloc (.cells #[.int .i64 0, .int .i64 0, .int .i64 0, .string ⟨#[]⟩, .slice none 0 0, .slice none 0 0, .int .i64 0] 26)).alloc (.cells #[.int .i64 0] 3)).alloc (.cells #[.int .i64 0] 27)) from by
    have := blk_new ((w.alloc (.cells #[.int .i64 0, .int .i64 0, .int .i64 0, .string ⟨#[]⟩, .slice none 0 0, .slice none 0 0, .int .i64 0] 26)).alloc (.cells #[.int .i64 0] 3)) 27 #[.int .i64 0]
    simpa using this)
  have B0 := hid (below_on (below_on A1 A2) A3)
  have TC := hid (tokens_calls s hs (((w.alloc (.cells #[.int .i64 0, .int .i64 0, .int .i64 0, .string ⟨#[]⟩, .slice none 0 0, .slice none 0 0, .int .i64 0] 26)).alloc (.cells #[.int .i64 0] 3)).alloc (.cells #[.int .i64 0] 27)) (by simp) (hid (texts_on SG.out h0 B0.out)))
  clear A1 A2 A3
  have HE := hid he
  clear he
  have hmf : ∀ (fn : Fn) (first cap : Array Value) (w : World), (Instr.makeFunc fn first cap).run Tryd.prog w = .ok (.func fn first cap) w := fun _ _ _ _ => rfl
  generalize tokOut s = o at *
  obtain ⟨tl, at_, er⟩ := o
  go_enter_defers Tryd.func6, Tryd.ntmps6
  go_wp2_with fail
  refine TC.out.mono ?_
  rintro e w1 ⟨v, rfl, row, b1⟩
  obtain ⟨ao, cap, rfl⟩ := row_shape row
  have N1 := hid (blk_on N0.out b1)
  have T1 := hid (blk_on T0.out b1)
  have E1 := hid (blk_on E0.out b1)
  have B1 := hid (below_on B0.out b1)
  have R1 := hid row
  clear row b1 N0 T0 E0 B0 TC
  unfold tokEnding
  have t0 := blk_cell T1.out 0
  have t1 := blk_free T1.out 0
  have e0 := blk_cell E1.out 0
  have e1 := blk_free E1.out 0
  simp at t0 e0
  have hn1 := blk_lt N1.out
  have ht1 := blk_lt T1.out
  have he1 := blk_lt E1.out
  obtain ⟨r0, r1, r2, r3, r4, r5, r6⟩ := cells7 N1.out
  obtain ⟨u0, u1, u2, u3, u4, u5, u6⟩ := frees7 N1.out
  have hen := HE.out
  clear HE
  go_wp2_with fail
  go_region
  all_goals go_wp2_with fail
  have Z1 := two_put N1.out T1.out E1.out (by omega) (by omega) (by omega) (.int .i64 (at_ : Int)) (.int .i64 er)
  have Z2 := three_put Z1.gn Z1.ga Z1.ge (by omega) (by omega) (by omega) (.int .i64 0) (.int .i64 0) (.int .i64 0) (.string ⟨#[]⟩) (.slice none 0 0) (.slice none 0 0) (.int .i64 0) (.int .i64 (at_ : Int)) (.int .i64 er)
  have BL := (B1.out.trans (Z1.below (by omega) (by omega) (by omega))).trans (Z2.below (by omega) (by omega) (by omega))
  unfold put7w at Z2 BL
  exact ⟨_, ret_three rfl rfl rfl rfl (blk_on Z2.gn (Below.refl _ _).drew) (blk_on Z2.ga (Below.refl _ _).drew) (blk_on Z2.ge (Below.refl _ _).drew), _, _, rfl, ndZ_in, BL.drew⟩

/-- a block below the parser's is written that holds no tokens -/
theorem pst_other {P g : Nat} {L l : List Tok} {a c : World} {T : TypeId} {cs : Array Value} (h : PSt P L a l) (hb : Blk g T cs a) (hc : ∀ t, cs[1]? ≠ some (.string t)) (hgP : g ≠ P) (hg : g ≠ 1) (hs : c.heap.size = a.heap.size) (hk : ∀ k, k ≠ g → c.heap[k]? = a.heap[k]?) : PSt P L c l := by
  have hlt := h.lt
  obtain ⟨R, cap, h1, h2, h3, h4⟩ := h.mem
  have hL : 0 < L.length := by
    have := h.suf.length_le
    have h5 : 0 < l.length := List.length_pos_iff.2 h.ne
    omega
  have hR : R ≠ g := by
    rintro rfl
    have := (h3 0 hL).2.1
    rw [blk_cell hb] at this
    exact hc _ this
  refine ⟨h.ok, h.suf, h.ne, ⟨by rw [hs]; exact h.sg.1, h.sg.2.1, fun i hi => (World.cell?_of_block (w := a) (hk _ (Ne.symm hg))).trans (h.sg.2.2 i hi)⟩, R, cap, h1, h2, ?_, (hk P (Ne.symm hgP)).trans h4⟩
  intro i hi
  obtain ⟨x1, x2, x3, x4⟩ := h3 i hi
  have e := hk R hR
  exact ⟨cell_eq e x1, cell_eq e x2, cell_eq e x3, cell_eq e x4⟩
/-- the parser as it begins -/
theorem pst_begin {L : List Tok} {w : World} {R cap : Nat} (hL : TokOk L) (hR : R < w.heap.size) (hc : L.length ≤ cap) (hA : TokAt R L w) (hs : 1 < w.heap.size) (ST : Texts 1 tsgnL w) (o : Obj) :
    PSt w.heap.size L ((w.alloc (.cells #[.slice (some ⟨R, 0, none⟩) L.length cap, .int .i64 0] 39)).alloc o) L := by
  have A1 := (Below.refl _ w).alloc (Nat.le_refl _) (.cells #[.slice (some ⟨R, 0, none⟩) L.length cap, .int .i64 0] 39)
  have A2 := (Below.refl _ (w.alloc (.cells #[.slice (some ⟨R, 0, none⟩) L.length cap, .int .i64 0] 39))).alloc (Nat.le_refl _) o
  have A := below_on A1 A2
  refine ⟨hL, List.suffix_refl _, tokOk_ne hL, ⟨by simp; omega, hs, texts_on ST hs A⟩, R, cap, hR, hc, ?_, ?_⟩
  · intro i hi
    obtain ⟨x1, x2, x3, x4⟩ := hA i hi
    have e := A.block R hR
    exact ⟨cell_eq e x1, cell_eq e x2, cell_eq e x3, cell_eq e x4⟩
  · have := blk_on (blk_new w 39 #[.slice (some ⟨R, 0, none⟩) L.length cap, .int .i64 0]) A2
    simpa using this
theorem three_aft {a c : World} {nb ab eb lo : Nat} {cs : Array Value} {x y : Value} (h : Three a c nb ab eb cs x y) (h1 : nb < lo) (h2 : ab < lo) (h3 : eb < lo) : Aft lo a c := ⟨by rw [h.size]; exact Nat.le_refl _, fun k hk _ => h.rest k (by omega) (by omega) (by omega)⟩
theorem tokAt_below {R : Nat} {L : List Tok} {a c : World} (h : TokAt R L a) (k : c.heap[R]? = a.heap[R]?) : TokAt R L c := by
  intro i hi
  obtain ⟨x1, x2, x3, x4⟩ := h i hi
  exact ⟨cell_eq k x1, cell_eq k x2, cell_eq k x3, cell_eq k x4⟩

set_option maxRecDepth 100000 in
set_option maxHeartbeats 12800000 in
theorem whole_prog (s : ByteArray) (hs : s.size ≤ 1000000) (w : World) (h0 : 0 < w.heap.size) (h1 : 1 < w.heap.size) (SG : Hid (Texts 0 sgnL w)) (ST : Hid (Texts 1 tsgnL w)) (he : (tokOut s).2.2 = 0) (o : PR)
    (hR : ∀ (P : Nat) (w' : World), Hid (PSt P (tokOut s).1 w' (tokOut s).1) → Calls Tryd.prog 7 #[.pointer (some ⟨P, 0, none⟩)] w' (Reads P (tokOut s).1 w' o)) (hcount : ∀ x b l, o = .ok x b l → countN x ≤ 1000000) :
    Calls Tryd.prog 6 #[.string s, .func (.func 7) #[] #[]] w (Whole w (wholeO o)) := by
  have A1 := (Below.refl _ w).alloc (Nat.le_refl _) (.cells #[.int .i64 0, .int .i64 0, .int .i64 0, .string ⟨#[]⟩, .slice none 0 0, .slice none 0 0, .int .i64 0] 26)
  have A2 := (Below.refl _ (w.alloc (.cells #[.int .i64 0, .int .i64 0, .int .i64 0, .string ⟨#[]⟩, .slice none 0 0, .slice none 0 0, .int .i64 0] 26))).alloc (Nat.le_refl _) (.cells #[.int .i64 0] 3)
  have A3 := (Below.refl _ ((w.alloc (.cells #[.int .i64 0, .int .i64 0, .int .i64 0, .string ⟨#[]⟩, .slice none 0 0, .slice none 0 0, .int .i64 0] 26)).alloc (.cells #[.int .i64 0] 3))).alloc (Nat.le_refl _) (.cells #[.int .i64 0] 27)
  have N0 := hid (blk_on (blk_on (blk_new w 26 #[.int .i64 0, .int .i64 0, .int .i64 0, .string ⟨#[]⟩, .slice none 0 0, .slice none 0 0, .int .i64 0]) A2) A3)
  have T0 := hid (show Blk (w.heap.size + 1) 3 #[.int .i64 0] (((w.alloc (.cells #[.int .i64 0, .int .i64 0, .int .i64 0, .string ⟨#[]⟩, .slice none 0 0, .slice none 0 0, .int .i64 0] 26)).alloc (.cells #[.int .i64 0] 3)).alloc (.cells #[.int .i64 0] 27)) from by
    have := blk_on (blk_new (w.alloc (.cells #[.int .i64 0, .int .i64 0, .int .i64 0, .string ⟨#[]⟩, .slice none 0 0, .slice none 0 0, .int .i64 0] 26)) 3 #[.int .i64 0]) A3
    simpa using this)
  have E0 := hid (show Blk (w.heap.size + 1 + 1) 27 #[.int .i64 0] (((w.alloc (.cells #[.int .i64 0, .int .i64 0, .int .i64 0, .string ⟨#[]⟩, .slice none 0 0, .slice none 0 0, .int .i64 0] 26)).alloc (.cells #[.int .i64 0] 3)).alloc (.cells #[.int .i64 0] 27)) from by
    have := blk_new ((w.alloc (.cells #[.int .i64 0, .int .i64 0, .int .i64 0, .string ⟨#[]⟩, .slice none 0 0, .slice none 0 0, .int .i64 0] 26)).alloc (.cells #[.int .i64 0] 3)) 27 #[.int .i64 0]
    simpa using this)
  have B0 := hid (below_on (below_on A1 A2) A3)
  have TC := hid (tokens_calls s hs (((w.alloc (.cells #[.int .i64 0, .int .i64 0, .int .i64 0, .string ⟨#[]⟩, .slice none 0 0, .slice none 0 0, .int .i64 0] 26)).alloc (.cells #[.int .i64 0] 3)).alloc (.cells #[.int .i64 0] 27)) (by simp) (hid (texts_on SG.out h0 B0.out)))
  clear A1 A2 A3
  cases o with
  | bad l' =>
    clear hcount
    have HE := hid he
    have HL := hid (out_tokok he)
    clear he
    have hmf : ∀ (fn : Fn) (first cap : Array Value) (w : World), (Instr.makeFunc fn first cap).run Tryd.prog w = .ok (.func fn first cap) w := fun _ _ _ _ => rfl
    have HR := hid (fun P w' S => hR P w' S)
    clear hR
    obtain ⟨⟨L, at_, er⟩, ho⟩ : ∃ o, tokOut s = o := ⟨_, rfl⟩
    rw [ho] at TC HE HL HR
    have her : er = 0 := HE.out
    subst her
    clear ho HE
    go_enter_defers Tryd.func6, Tryd.ntmps6
    go_wp2_with fail
    refine TC.out.mono ?_
    rintro e w1 ⟨v, rfl, row, b1⟩
    obtain ⟨R, cap, rfl, hcap, hRl, hRs, hTA⟩ := row_tokAt row (tokOk_ne HL.out)
    have N1 := hid (blk_on N0.out b1)
    have T1 := hid (blk_on T0.out b1)
    have E1 := hid (blk_on E0.out b1)
    have B1 := hid (below_on B0.out b1)
    have hw01 : w.heap.size + 1 + 1 + 1 ≤ R := by simpa using hRl
    have Z1 := two_put N1.out T1.out E1.out (by omega) (by omega) (by omega) (.int .i64 (at_ : Int)) (.int .i64 0)
    have BZ := B1.out.trans (Z1.below (by omega) (by omega) (by omega))
    have hs1 := Z1.size
    have S2 := hid (pst_begin (cap := cap) (R := R) HL.out (by rw [hs1]; exact hRs) hcap (tokAt_below hTA (Z1.rest R (by omega) (by omega) (by omega))) (by have := BZ.size; omega) (texts_on ST.out h1 BZ) (.cells #[.pointer (some ⟨w1.heap.size, 0, none⟩)] 32))
    rw [hs1] at S2
    have A1 := (Below.refl _ ((w1.setCell ⟨w.heap.size + 1, 0, none⟩ (.int .i64 (at_ : Int))).setCell ⟨w.heap.size + 1 + 1, 0, none⟩ (.int .i64 0))).alloc (Nat.le_refl _) (.cells #[.slice (some ⟨R, 0, none⟩) L.length cap, .int .i64 0] 39)
    have A2 := (Below.refl _ (((w1.setCell ⟨w.heap.size + 1, 0, none⟩ (.int .i64 (at_ : Int))).setCell ⟨w.heap.size + 1 + 1, 0, none⟩ (.int .i64 0)).alloc (.cells #[.slice (some ⟨R, 0, none⟩) L.length cap, .int .i64 0] 39))).alloc (Nat.le_refl _) (.cells #[.pointer (some ⟨w1.heap.size, 0, none⟩)] 32)
    have N2 := hid (blk_on (blk_on Z1.gn A1) A2)
    have T2 := hid (blk_on (blk_on Z1.ga A1) A2)
    have E2 := hid (blk_on (blk_on Z1.ge A1) A2)
    have Q2 := hid (show Blk (w1.heap.size + 1) 32 #[.pointer (some ⟨w1.heap.size, 0, none⟩)] ((((w1.setCell ⟨w.heap.size + 1, 0, none⟩ (.int .i64 (at_ : Int))).setCell ⟨w.heap.size + 1 + 1, 0, none⟩ (.int .i64 0)).alloc (.cells #[.slice (some ⟨R, 0, none⟩) L.length cap, .int .i64 0] 39)).alloc (.cells #[.pointer (some ⟨w1.heap.size, 0, none⟩)] 32)) from by
      have := blk_new (((w1.setCell ⟨w.heap.size + 1, 0, none⟩ (.int .i64 (at_ : Int))).setCell ⟨w.heap.size + 1 + 1, 0, none⟩ (.int .i64 0)).alloc (.cells #[.slice (some ⟨R, 0, none⟩) L.length cap, .int .i64 0] 39)) 32 #[.pointer (some ⟨w1.heap.size, 0, none⟩)]
      simpa [hs1] using this)
    have B2 := hid ((BZ.trans (A1.mono (by have := BZ.size; omega))).trans (A2.mono (by have := BZ.size; simp; omega)))
    have hs2 : ((((w1.setCell ⟨w.heap.size + 1, 0, none⟩ (.int .i64 (at_ : Int))).setCell ⟨w.heap.size + 1 + 1, 0, none⟩ (.int .i64 0)).alloc (.cells #[.slice (some ⟨R, 0, none⟩) L.length cap, .int .i64 0] 39)).alloc (.cells #[.pointer (some ⟨w1.heap.size, 0, none⟩)] 32)).heap.size = w1.heap.size + 1 + 1 := by simp [hs1]
    have t0 := blk_cell T1.out 0
    have t1 := blk_free T1.out 0
    have e0 := blk_cell E1.out 0
    have e1 := blk_free E1.out 0
    simp at t0 e0
    have ht1 := blk_lt T1.out
    have he1 := blk_lt E1.out
    clear row b1 N0 T0 E0 B0 TC N1 B1 Z1 BZ hTA A1 A2 T1 E1 HL
    unfold tokEnding
    go_wp2_with fail
    refine (HR.out _ _ S2).mono ?_
    rintro e w3 ⟨rfl, s3, b3⟩
    have S3 := hid s3
    have N3 := hid (blk_but N2.out b3 (by omega))
    have T3 := hid (blk_but T2.out b3 (by omega))
    have E3 := hid (blk_but E2.out b3 (by omega))
    have Q3 := hid (blk_but Q2.out b3 (by omega))
    have B3 := hid (B2.out.trans (b3.below (B := w.heap.size) (by omega) B2.out.size))
    clear s3 b3 HR S2 N2 T2 E2 Q2 B2
    unfold gaveUp
    go_wp2_with fail
    refine leaves_cons (f := 10) (args := #[.pointer (some ⟨w1.heap.size + 1, 0, none⟩), .pointer (some ⟨w.heap.size, 0, none⟩), .pointer (some ⟨w.heap.size + 1, 0, none⟩), .pointer (some ⟨w.heap.size + 1 + 1, 0, none⟩)]) (by simp) (by simp [go_sem]) ?_
    refine (catch_panicking w1.heap.size (w1.heap.size + 1) (w.heap.size) (w.heap.size + 1) (w.heap.size + 1 + 1) L l' _ (by omega) (by omega) (by omega) S3 (hid ⟨Q3.out, ⟨_, _, _, _, _, _, _, N3.out⟩, ⟨_, T3.out⟩, ⟨_, E3.out⟩⟩)).mono ?_
    rintro e u w9 ⟨rfl, rfl, n9, t9, e9, sz9, os9, rest9⟩
    exact ⟨_, ret_three rfl rfl rfl rfl n9 t9 e9, _, _, rfl, ndZ_in, ⟨os9.1.trans B3.out.os, os9.2.1.trans B3.out.tape, os9.2.2.trans B3.out.output, Nat.le_trans B3.out.size sz9, fun k hk => (rest9 k (by have := B3.out.size; omega) (by omega) (by omega) (by omega)).trans (B3.out.block k hk)⟩⟩
  | ok x b l' =>
    have HCN := hid (hcount x b l' rfl)
    clear hcount
    have HE := hid he
    have HL := hid (out_tokok he)
    clear he
    have hmf : ∀ (fn : Fn) (first cap : Array Value) (w : World), (Instr.makeFunc fn first cap).run Tryd.prog w = .ok (.func fn first cap) w := fun _ _ _ _ => rfl
    have HR := hid (fun P w' S => hR P w' S)
    clear hR
    obtain ⟨⟨L, at_, er⟩, ho⟩ : ∃ o, tokOut s = o := ⟨_, rfl⟩
    rw [ho] at TC HE HL HR
    have her : er = 0 := HE.out
    subst her
    clear ho HE
    go_enter_defers Tryd.func6, Tryd.ntmps6
    go_wp2_with fail
    refine TC.out.mono ?_
    rintro e w1 ⟨v, rfl, row, b1⟩
    obtain ⟨R, cap, rfl, hcap, hRl, hRs, hTA⟩ := row_tokAt row (tokOk_ne HL.out)
    have N1 := hid (blk_on N0.out b1)
    have T1 := hid (blk_on T0.out b1)
    have E1 := hid (blk_on E0.out b1)
    have B1 := hid (below_on B0.out b1)
    have hw01 : w.heap.size + 1 + 1 + 1 ≤ R := by simpa using hRl
    have Z1 := two_put N1.out T1.out E1.out (by omega) (by omega) (by omega) (.int .i64 (at_ : Int)) (.int .i64 0)
    have BZ := B1.out.trans (Z1.below (by omega) (by omega) (by omega))
    have hs1 := Z1.size
    have S2 := hid (pst_begin (cap := cap) (R := R) HL.out (by rw [hs1]; exact hRs) hcap (tokAt_below hTA (Z1.rest R (by omega) (by omega) (by omega))) (by have := BZ.size; omega) (texts_on ST.out h1 BZ) (.cells #[.pointer (some ⟨w1.heap.size, 0, none⟩)] 32))
    rw [hs1] at S2
    have A1 := (Below.refl _ ((w1.setCell ⟨w.heap.size + 1, 0, none⟩ (.int .i64 (at_ : Int))).setCell ⟨w.heap.size + 1 + 1, 0, none⟩ (.int .i64 0))).alloc (Nat.le_refl _) (.cells #[.slice (some ⟨R, 0, none⟩) L.length cap, .int .i64 0] 39)
    have A2 := (Below.refl _ (((w1.setCell ⟨w.heap.size + 1, 0, none⟩ (.int .i64 (at_ : Int))).setCell ⟨w.heap.size + 1 + 1, 0, none⟩ (.int .i64 0)).alloc (.cells #[.slice (some ⟨R, 0, none⟩) L.length cap, .int .i64 0] 39))).alloc (Nat.le_refl _) (.cells #[.pointer (some ⟨w1.heap.size, 0, none⟩)] 32)
    have N2 := hid (blk_on (blk_on Z1.gn A1) A2)
    have T2 := hid (blk_on (blk_on Z1.ga A1) A2)
    have E2 := hid (blk_on (blk_on Z1.ge A1) A2)
    have Q2 := hid (show Blk (w1.heap.size + 1) 32 #[.pointer (some ⟨w1.heap.size, 0, none⟩)] ((((w1.setCell ⟨w.heap.size + 1, 0, none⟩ (.int .i64 (at_ : Int))).setCell ⟨w.heap.size + 1 + 1, 0, none⟩ (.int .i64 0)).alloc (.cells #[.slice (some ⟨R, 0, none⟩) L.length cap, .int .i64 0] 39)).alloc (.cells #[.pointer (some ⟨w1.heap.size, 0, none⟩)] 32)) from by
      have := blk_new (((w1.setCell ⟨w.heap.size + 1, 0, none⟩ (.int .i64 (at_ : Int))).setCell ⟨w.heap.size + 1 + 1, 0, none⟩ (.int .i64 0)).alloc (.cells #[.slice (some ⟨R, 0, none⟩) L.length cap, .int .i64 0] 39)) 32 #[.pointer (some ⟨w1.heap.size, 0, none⟩)]
      simpa [hs1] using this)
    have B2 := hid ((BZ.trans (A1.mono (by have := BZ.size; omega))).trans (A2.mono (by have := BZ.size; simp; omega)))
    have hs2 : ((((w1.setCell ⟨w.heap.size + 1, 0, none⟩ (.int .i64 (at_ : Int))).setCell ⟨w.heap.size + 1 + 1, 0, none⟩ (.int .i64 0)).alloc (.cells #[.slice (some ⟨R, 0, none⟩) L.length cap, .int .i64 0] 39)).alloc (.cells #[.pointer (some ⟨w1.heap.size, 0, none⟩)] 32)).heap.size = w1.heap.size + 1 + 1 := by simp [hs1]
    have t0 := blk_cell T1.out 0
    have t1 := blk_free T1.out 0
    have e0 := blk_cell E1.out 0
    have e1 := blk_free E1.out 0
    simp at t0 e0
    have ht1 := blk_lt T1.out
    have he1 := blk_lt E1.out
    clear row b1 N0 T0 E0 B0 TC N1 B1 Z1 BZ hTA A1 A2 T1 E1 HL
    unfold tokEnding
    go_wp2_with fail
    refine (HR.out _ _ S2).mono ?_
    rintro e w3 ⟨⟨nv, kv, rfl, n3⟩, s3, b3⟩
    obtain ⟨a1, q1, a2, q2, rfl, rfl⟩ := ndR_shape n3
    have S3 := hid s3
    have N3 := hid (blk_but N2.out b3 (by omega))
    have T3 := hid (blk_but T2.out b3 (by omega))
    have E3 := hid (blk_but E2.out b3 (by omega))
    have Q3 := hid (blk_but Q2.out b3 (by omega))
    have B3 := hid (B2.out.trans (b3.below (B := w.heap.size) (by omega) B2.out.size))
    have X3 := hid (ndR_low (lo' := w1.heap.size + 1 + 1) (by rw [hs2]; exact Nat.le_refl _) n3)
    have hz3 : w1.heap.size + 1 + 1 ≤ w3.heap.size := by rw [← hs2]; exact b3.size
    clear s3 b3 n3 HR S2 N2 T2 E2 Q2 B2 hs2
    unfold ndv
    obtain ⟨r0, r1, r2, r3, r4, r5, r6⟩ := cells7 N3.out
    obtain ⟨u0, u1, u2, u3, u4, u5, u6⟩ := frees7 N3.out
    go_upto_region 7 with fail
    have hp : (put7w w3 w.heap.size (.int .i64 x.kind) (.int .i64 x.op) (.int .i64 x.num) (.string x.str) (.slice a1 x.names.length q1) (.slice a2 x.kids.length q2) (.int .i64 x.pl)).heap.size = w3.heap.size := by simp [put7w, World.setCell]
    have N4 := hid (put7_blk N3.out (.int .i64 x.kind) (.int .i64 x.op) (.int .i64 x.num) (.string x.str) (.slice a1 x.names.length q1) (.slice a2 x.kids.length q2) (.int .i64 x.pl))
    have T4 := hid (blk_put7 (g := w.heap.size) T3.out (by omega) (.int .i64 x.kind) (.int .i64 x.op) (.int .i64 x.num) (.string x.str) (.slice a1 x.names.length q1) (.slice a2 x.kids.length q2) (.int .i64 x.pl))
    have E4 := hid (blk_put7 (g := w.heap.size) E3.out (by omega) (.int .i64 x.kind) (.int .i64 x.op) (.int .i64 x.num) (.string x.str) (.slice a1 x.names.length q1) (.slice a2 x.kids.length q2) (.int .i64 x.pl))
    have Q4 := hid (blk_put7 (g := w.heap.size) Q3.out (by omega) (.int .i64 x.kind) (.int .i64 x.op) (.int .i64 x.num) (.string x.str) (.slice a1 x.names.length q1) (.slice a2 x.kids.length q2) (.int .i64 x.pl))
    have X4 := hid (ndR_aft (put7_aft (lo := w1.heap.size + 1 + 1) (g := w.heap.size) w3 (by omega) (.int .i64 x.kind) (.int .i64 x.op) (.int .i64 x.num) (.string x.str) (.slice a1 x.names.length q1) (.slice a2 x.kids.length q2) (.int .i64 x.pl)) X3.out)
    have AO := put7_aftO (ok := fun k => k ≠ w.heap.size) (g := w.heap.size) w3 (fun h => h rfl) (.int .i64 x.kind) (.int .i64 x.op) (.int .i64 x.num) (.string x.str) (.slice a1 x.names.length q1) (.slice a2 x.kids.length q2) (.int .i64 x.pl)
    have hrest : ∀ k, k ≠ w.heap.size → (put7w w3 w.heap.size (.int .i64 x.kind) (.int .i64 x.op) (.int .i64 x.num) (.string x.str) (.slice a1 x.names.length q1) (.slice a2 x.kids.length q2) (.int .i64 x.pl)).heap[k]? = w3.heap[k]? := fun k hk => by
      unfold put7w
      rw [Below.heap_setCell _ _ _ _ hk, Below.heap_setCell _ _ _ _ hk, Below.heap_setCell _ _ _ _ hk, Below.heap_setCell _ _ _ _ hk, Below.heap_setCell _ _ _ _ hk, Below.heap_setCell _ _ _ _ hk, Below.heap_setCell _ _ _ _ hk]
    have S4 := hid (pst_other S3.out N3.out (fun t h => by simp at h) (by omega) (by omega) hp hrest)
    have B4 := hid (below_put7 B3.out (Nat.le_refl _) (.int .i64 x.kind) (.int .i64 x.op) (.int .i64 x.num) (.string x.str) (.slice a1 x.names.length q1) (.slice a2 x.kids.length q2) (.int .i64 x.pl))
    clear AO hrest S3 N3 T3 E3 Q3 B3 X3 r0 r1 r2 r3 r4 r5 r6 u0 u1 u2 u3 u4 u5 u6
    unfold put7w at N4 T4 E4 Q4 X4 S4 B4 hp
    obtain ⟨w4, hw4⟩ : ∃ w4, ((((((w3.setCell ⟨w.heap.size, 0, none⟩ (.int .i64 x.kind)).setCell ⟨w.heap.size, 1, none⟩ (.int .i64 x.op)).setCell ⟨w.heap.size, 2, none⟩ (.int .i64 x.num)).setCell ⟨w.heap.size, 3, none⟩ (.string x.str)).setCell ⟨w.heap.size, 4, none⟩ (.slice a1 x.names.length q1)).setCell ⟨w.heap.size, 5, none⟩ (.slice a2 x.kids.length q2)).setCell ⟨w.heap.size, 6, none⟩ (.int .i64 x.pl) = w4 := ⟨_, rfl⟩
    rw [hw4] at N4 T4 E4 Q4 X4 S4 B4 hp ⊢
    clear hw4
    have q0 := blk_cell Q4.out 0
    simp at q0
    have hfd := fun (w : World) => field_kind (cur l') w
    have HH := hid (here_calls w1.heap.size L l' w4 S4)
    generalize hcl : cur l' = t at *
    have HCL := hid hcl
    clear hcl
    unfold Tok.val at HH
    go_wp2_with fail
    refine HH.out.mono ?_
    rintro e w5 ⟨rfl, b5⟩
    have S5 := hid (S4.out.on b5)
    have N5 := hid (blk_on N4.out b5)
    have T5 := hid (blk_on T4.out b5)
    have E5 := hid (blk_on E4.out b5)
    have Q5 := hid (blk_on Q4.out b5)
    have B5 := hid (below_on B4.out b5)
    have X5 := hid (ndR_aft (aft_below b5) X4.out)
    have hz5 := b5.size
    clear b5 HH S4 N4 T4 E4 Q4 B4 X4 q0
    have q0 := blk_cell Q5.out 0
    simp at q0
    by_cases h6 : t.kind = 6
    · have h6' : (cur l').kind = 6 := by rw [HCL.out]; exact h6
      obtain ⟨c0, c1, c2, c3, c4, c5, c6⟩ := cells7 N5.out
      have HT := hid (height_calls x w5.heap.size w5 _ _ (Nat.le_refl _) (hid (ndR_in X5.out)) HCN.out)
      have H6 := hid h6'
      replace hfd := fun (w : World) => (show (Instr.field 41 (.agg #[.int .i64 6, .string t.text, .int .i64 t.num, .int .i64 t.pl]) 0).run Tryd.prog w = .ok (.int .i64 6) w by have := hfd w; rw [h6] at this; exact this)
      clear h6' HCL S5 Q5 q0
      go_wp2_with fail
      refine HT.out.mono ?_
      rintro e w6 ⟨rfl, b6⟩
      have N6 := hid (blk_on N5.out b6)
      have T6 := hid (blk_on T5.out b6)
      have E6 := hid (blk_on E5.out b6)
      have B6 := hid (below_on B5.out b6)
      have X6 := hid (ndR_aft (aft_below b6) X5.out)
      clear b6 HT N5 T5 E5 B5 X5 c0 c1 c2 c3 c4 c5 c6
      obtain ⟨c0, c1, c2, c3, c4, c5, c6⟩ := cells7 N6.out
      obtain ⟨u0, u1, u2, u3, u4, u5, u6⟩ := frees7 N6.out
      have t0 := blk_cell T6.out 0
      have t1 := blk_free T6.out 0
      have e0 := blk_cell E6.out 0
      have e1 := blk_free E6.out 0
      simp at t0 e0
      by_cases h12 : 12 < highN x
      · have hh : (12 : Int) < (highN x : Int) := by omega
        have HS := hid (show wholeO (.ok x b l') = (ndZ, 0, 13) by rw [wholeO_ok, if_pos H6.out, if_pos h12])
        go_wp2_with fail
        refine leaves_cons (f := 10) (args := #[.pointer (some ⟨w1.heap.size + 1, 0, none⟩), .pointer (some ⟨w.heap.size, 0, none⟩), .pointer (some ⟨w.heap.size + 1, 0, none⟩), .pointer (some ⟨w.heap.size + 1 + 1, 0, none⟩)]) (by simp) (by simp [go_sem]) ?_
        refine (catch_idle _ _ _ _ _).mono ?_
        rintro e u w9 ⟨rfl, rfl, rfl⟩
        have Z := three_put N6.out T6.out E6.out (by omega) (by omega) (by omega) (.int .i64 0) (.int .i64 0) (.int .i64 0) (.string ⟨#[]⟩) (.slice none 0 0) (.slice none 0 0) (.int .i64 0) (.int .i64 0) (.int .i64 13)
        have BL := B6.out.trans (Z.below (by omega) (by omega) (by omega))
        unfold put7w at Z BL
        refine ⟨_, ret_three rfl rfl rfl rfl Z.gn Z.ga Z.ge, ?_⟩
        rw [HS.out]
        exact ⟨_, _, rfl, ndZ_in, BL⟩
      · have hh : ¬ (12 : Int) < (highN x : Int) := by omega
        have HS := hid (show wholeO (.ok x b l') = (x, 0, 0) by rw [wholeO_ok, if_pos H6.out, if_neg h12])
        go_wp2_with fail
        refine leaves_cons (f := 10) (args := #[.pointer (some ⟨w1.heap.size + 1, 0, none⟩), .pointer (some ⟨w.heap.size, 0, none⟩), .pointer (some ⟨w.heap.size + 1, 0, none⟩), .pointer (some ⟨w.heap.size + 1 + 1, 0, none⟩)]) (by simp) (by simp [go_sem]) ?_
        refine (catch_idle _ _ _ _ _).mono ?_
        rintro e u w9 ⟨rfl, rfl, rfl⟩
        have Z := three_put N6.out T6.out E6.out (by omega) (by omega) (by omega) (.int .i64 x.kind) (.int .i64 x.op) (.int .i64 x.num) (.string x.str) (.slice a1 x.names.length q1) (.slice a2 x.kids.length q2) (.int .i64 x.pl) (.int .i64 0) (.int .i64 0)
        have BL := B6.out.trans (Z.below (by omega) (by omega) (by omega))
        have NN := ndR_low (lo' := w.heap.size) (by omega) (ndR_aft (three_aft (lo := w1.heap.size + 1 + 1) Z (by omega) (by omega) (by omega)) X6.out)
        unfold put7w at Z BL NN
        refine ⟨_, ret_three rfl rfl rfl rfl Z.gn Z.ga Z.ge, ?_⟩
        rw [HS.out]
        exact ⟨_, _, rfl, NN, BL⟩
    · have HS := hid (show wholeO (.ok x b l') = (ndZ, (cur l').pl, 12) by rw [wholeO_ok, if_neg (by rw [HCL.out]; exact h6)])
      go_wp2_with fail
      refine (giveup_calls w1.heap.size _).mono ?_
      rintro e w6 ⟨rfl, rfl⟩
      unfold gaveUp
      go_wp2_with fail
      refine leaves_cons (f := 10) (args := #[.pointer (some ⟨w1.heap.size + 1, 0, none⟩), .pointer (some ⟨w.heap.size, 0, none⟩), .pointer (some ⟨w.heap.size + 1, 0, none⟩), .pointer (some ⟨w.heap.size + 1 + 1, 0, none⟩)]) (by simp) (by simp [go_sem]) ?_
      refine (catch_panicking w1.heap.size (w1.heap.size + 1) (w.heap.size) (w.heap.size + 1) (w.heap.size + 1 + 1) L l' _ (by omega) (by omega) (by omega) S5 (hid ⟨Q5.out, ⟨_, _, _, _, _, _, _, N5.out⟩, ⟨_, T5.out⟩, ⟨_, E5.out⟩⟩)).mono ?_
      rintro e u w9 ⟨rfl, rfl, n9, t9, e9, sz9, os9, rest9⟩
      refine ⟨_, ret_three rfl rfl rfl rfl n9 t9 e9, ?_⟩
      rw [HS.out]
      exact ⟨_, _, rfl, ndZ_in, ⟨os9.1.trans B5.out.os, os9.2.1.trans B5.out.tape, os9.2.2.trans B5.out.output, Nat.le_trans B5.out.size sz9, fun k hk => (rest9 k (by have := B5.out.size; omega) (by omega) (by omega) (by omega)).trans (B5.out.block k hk)⟩⟩

end Go.Proofs.YtijbiedblahmhaaDoor

namespace Go.Proofs.YtijbiedblahmhaaDoor
open Go.RowKit

/-- what a program's rule reads -/
def progR (f : Nat) (l : List Tok) : PR := (pStmts f [] l).bind fun _ ks l => .ok (ndK 29 ks) false l
theorem parseO_is (f : Nat) (s : ByteArray) (he : (tokOut s).2.2 = 0) : parseO f true s = wholeO (progR f (tokOut s).1) := by
  unfold parseO
  rw [if_neg (by rw [he]; simp)]
  unfold pWhole
  simp only [if_true]
  change (match (progR f (tokOut s).1).bind _ with | .bad l => _ | .ok t _ _ => _) = _
  cases progR f (tokOut s).1 with
  | bad l => rfl
  | ok t b l =>
    rw [PR.bind_ok, wholeO_ok]
    split
    · rename_i h1
      split at h1
      · cases h1
      · rename_i h2
        injection h1 with h3
        subst h3
        rw [if_neg h2]
    · rename_i h1
      split at h1
      · rename_i h2
        injection h1 with h3 _ _
        subst h3
        rw [if_pos h2]
      · cases h1
theorem prog_count (f : Nat) (s : ByteArray) (he : (tokOut s).2.2 = 0) : ∀ x b l, progR f (tokOut s).1 = .ok x b l → countN x ≤ 1000000 := by
  intro x b l h
  have hm := (may f).stmts [] (tokOut s).1 (tokOut s).1 (out_right s) ⟨by simp, by simp, [], rfl, by simp [countL]⟩
  have hk := (out_tokok he).few
  unfold progR at h
  cases hq : pStmts f [] (tokOut s).1 with
  | bad l1 => rw [hq] at h; cases h
  | ok ns ts l1 =>
    rw [hq] at h hm
    rw [PL.bind_ok] at h
    injection h with e1 _ _
    obtain ⟨q1, q2, pre, q3, q4⟩ := hm
    rw [← e1]
    have := congrArg List.length q3
    simp at this
    simp only [ndK, countN]
    omega
/-- parse.whole with a program's rule -/
theorem wholeP_calls (f : Nat) (s : ByteArray) (hs : s.size ≤ 1000000) (hf : 20 * (tokOut s).1.length + 14 ≤ f) (w : World) (h0 : 0 < w.heap.size) (h1 : 1 < w.heap.size) (SG : Hid (Texts 0 sgnL w)) (ST : Hid (Texts 1 tsgnL w)) :
    Calls Tryd.prog 6 #[.string s, .func (.func 7) #[] #[]] w (Whole w (parseO f true s)) := by
  by_cases he : (tokOut s).2.2 = 0
  · rw [parseO_is f s he]
    refine whole_prog s hs w h0 h1 SG ST he _ (fun P w' S => ?_) (prog_count f s he)
    exact rule_prog P _ _ w' _ S (hid fun w2 S2 => program_calls f P _ _ w2 hf S2)
  · have e : parseO f true s = (ndZ, ((tokOut s).2.1 : Int), (tokOut s).2.2) := by unfold parseO; rw [if_pos he]
    rw [e]
    exact whole_err s hs _ w h0 SG he
theorem ret_parse {fn : Func} {t1 t2 t3 : Tmp} (h : fn.results = #[.cell t1 26, .tmp t2, .tmp t3]) {tmps : Array Value} {nb : Nat} {w : World} {a b c d e f p : Value} (e1 : tmps.getD t1 undef = .pointer (some ⟨nb, 0, none⟩))
    (h1 : Blk nb 26 #[a, b, c, d, e, f, p] w) : (results fn tmps).run Tryd.prog w = .ok (.tuple #[.agg #[a, b, c, d, e, f, p], tmps.getD t2 undef, tmps.getD t3 undef]) w := by
  rw [Array.getD_eq_getD_getElem?] at e1
  have c0 := blk_cell h1 0
  have c1 := blk_cell h1 1
  have c2 := blk_cell h1 2
  have c3 := blk_cell h1 3
  have c4 := blk_cell h1 4
  have c5 := blk_cell h1 5
  have c6 := blk_cell h1 6
  simp at c0 c1 c2 c3 c4 c5 c6
  simp [results, h, e1, go_sem, asAddr, c0, c1, c2, c3, c4, c5, c6]

set_option maxRecDepth 100000 in
set_option maxHeartbeats 3200000 in
theorem parse_calls (f : Nat) (s : ByteArray) (hs : s.size ≤ 1000000) (hf : 20 * (tokOut s).1.length + 14 ≤ f) (w : World) (h0 : 0 < w.heap.size) (h1 : 1 < w.heap.size) (SG : Hid (Texts 0 sgnL w)) (ST : Hid (Texts 1 tsgnL w)) :
    Calls Tryd.prog 5 #[.string s] w (Whole w (parseO f true s)) := by
  have A := (Below.refl _ w).alloc (Nat.le_refl _) (.cells #[.int .i64 0, .int .i64 0, .int .i64 0, .string ⟨#[]⟩, .slice none 0 0, .slice none 0 0, .int .i64 0] 26)
  have N0 := hid (blk_new w 26 #[.int .i64 0, .int .i64 0, .int .i64 0, .string ⟨#[]⟩, .slice none 0 0, .slice none 0 0, .int .i64 0])
  have HC := hid (wholeP_calls f s hs hf _ (by simp) (by simp; omega) (hid (texts_on SG.out h0 A)) (hid (texts_on ST.out h1 A)))
  have A0 := hid A
  clear A SG ST
  obtain ⟨⟨x, at_, er⟩, ho⟩ : ∃ o, parseO f true s = o := ⟨_, rfl⟩
  rw [ho] at HC ⊢
  clear ho
  go_enter Tryd.func5, Tryd.ntmps5
  go_wp2_with fail
  refine HC.out.mono ?_
  rintro e w1 ⟨nv, kv, rfl, n1, b1⟩
  obtain ⟨a1, q1, a2, q2, rfl, rfl⟩ := ndR_shape n1
  have X1 := hid (ndR_low (lo' := w.heap.size + 1) (by simp) n1)
  have N1 := hid (blk_on N0.out b1)
  have B1 := hid (below_on A0.out b1)
  clear n1 b1 HC N0 A0
  unfold ndv
  obtain ⟨r0, r1, r2, r3, r4, r5, r6⟩ := cells7 N1.out
  obtain ⟨u0, u1, u2, u3, u4, u5, u6⟩ := frees7 N1.out
  go_wp2_with fail
  have Z := put7_blk N1.out (.int .i64 x.kind) (.int .i64 x.op) (.int .i64 x.num) (.string x.str) (.slice a1 x.names.length q1) (.slice a2 x.kids.length q2) (.int .i64 x.pl)
  have BL := below_put7 B1.out (Nat.le_refl _) (.int .i64 x.kind) (.int .i64 x.op) (.int .i64 x.num) (.string x.str) (.slice a1 x.names.length q1) (.slice a2 x.kids.length q2) (.int .i64 x.pl)
  have NN := ndR_low (Nat.le_succ _) (ndR_aft (put7_aft w1 (Nat.lt_succ_self _) (.int .i64 x.kind) (.int .i64 x.op) (.int .i64 x.num) (.string x.str) (.slice a1 x.names.length q1) (.slice a2 x.kids.length q2) (.int .i64 x.pl)) X1.out)
  exact bodyPost_ret (ret_parse rfl rfl Z) rfl ⟨_, _, rfl, NN, BL⟩

end Go.Proofs.YtijbiedblahmhaaDoor
