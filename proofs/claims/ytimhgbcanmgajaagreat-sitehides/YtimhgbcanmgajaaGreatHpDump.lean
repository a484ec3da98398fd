/- Dump. -/
import Derived.Test.YtimhgbcanmgajaaGreatJoint2
import Derived.Test.YtimhgbcanmgajaaGreatJoint16
import Derived.Test.YtimhgbcanmgajaaGreatHpTurn
import Derived.Test.YtimhgbcanmgajaaGreatVals
namespace Go.Proofs.YtimhgbcanmgajaaGreat
set_option linter.unusedSimpArgs false
set_option maxRecDepth 100000
open Go.RowKit

theorem has_at {T : TypeId} {ext : List Value} {B b : Nat} {l : List UInt8} {a c : World} (h : Has T ext B b l a) (k : Below a.heap.size a c) : Has T ext B b l c := by
  have hb := h.lt
  obtain ⟨p, v, h⟩ := h
  refine ⟨p, v, h.low, h.seen, (k.block b hb).trans h.blk, ?_, h.ne, h.nil⟩
  refine ⟨h.own.1, ?_⟩
  rcases h.own.2 with h1 | ⟨g, cap, cur, h1, h2, h3, h4⟩
  · exact .inl h1
  · refine .inr ⟨g, cap, cur, h1, h2, ?_, h4⟩
    rw [k.block g (lt_of_block h3)]
    exact h3
theorem print_le (k n : Int) (l : List UInt8) : (printB k n l).length ≤ 4 * l.length + 40 := by
  have h1 := quoted_length l
  have h2 := digs_length n
  unfold printB showB
  repeat' split
  all_goals (try simp only [List.length_cons, List.length_nil])
  all_goals omega
theorem bys_size (s : ByteArray) : (bys s).length = s.size := Array.length_toList
theorem bys_mk (l : List UInt8) : bys ⟨l.toArray⟩ = l := by simp [bys]
theorem bys_append (a b : ByteArray) : bys (a ++ b) = bys a ++ bys b := by simp [bys, ByteArray.data_append]
/-- a text that was made -/
def Txt (m : ByteArray) (l : List UInt8) : Prop := bys m = l
theorem hprint_calls (v : Vl) (hv : VFit v) (w : World) :
    Calls Tryz.prog 101 #[.agg #[.int .i64 v.1, .int .i64 v.2.1, .string v.2.2]] w fun e w' => ∃ m, e = .returned (.string m) ∧ Txt m (printB v.1 v.2.1 (bys v.2.2)) ∧ m.size ≤ 5000000 ∧ Below w.heap.size w w' := by
  have hI := hv.1
  unfold I64 at hI
  refine (print_calls v.1 v.2.1 hI.1 hI.2 v.2.2 hv.2 w).mono ?_
  rintro e w' ⟨rfl, b⟩
  refine ⟨_, rfl, bys_mk _, ?_, b⟩
  have h1 := print_le v.1 v.2.1 (bys v.2.2)
  rw [bys_size] at h1
  have h2 := hv.2
  rw [← bys_size, bys_mk]
  show (printB v.1 v.2.1 (bys v.2.2)).length ≤ _
  omega
theorem mark_calls (o : Int) (ho : I64 o) (w : World) :
    Calls Tryz.prog 100 #[.int .i64 o] w fun e w' => ∃ m, e = .returned (.string m) ∧ Txt m (35 :: digs o) ∧ m.size ≤ 5000000 ∧ Below w.heap.size w w' := by
  have HP := hid (hprint_calls (4, o, ⟨#[]⟩) ⟨ho, by simp [ByteArray.size]⟩ w)
  dsimp only at HP
  go_enter Tryz.func100, Tryz.ntmps100
  go_wp2_with fail
  refine HP.out.mono ?_
  rintro e1 w1 ⟨m, rfl, h1, h2, b1⟩
  have R := hid (show Txt m (35 :: digs o) ∧ m.size ≤ 5000000 ∧ Below w.heap.size w w1 from ⟨h1, h2, b1⟩)
  clear h1 h2 b1
  go_wp2_with fail
  go_ret
  exact ⟨m, rfl, R.out⟩
theorem ents_len : ∀ {l : List Ent}, OkL l → LFit l → (entsT l).length ≤ l.length * 6000000
  | [], _, _ => by simp [entsT]
  | e :: r, h, hf => by
    have ih := ents_len (l := r) ⟨by have := h.1; unfold OnceL at this ⊢; simp only [List.map_cons, List.nodup_cons] at this; exact this.2, fun y hy => h.2 y (by simp [hy])⟩ (fun y hy => hf y (by simp [hy]))
    have h1 := h.2 e (by simp)
    have h2 := (hf e (by simp)).2
    have h3 := print_le e.2.1 e.2.2.1 (bys e.2.2.2)
    rw [bys_size] at h3
    have h4 := bys_size e.1
    have hE : (entT e).length ≤ 6000000 := by
      unfold entT
      simp only [List.length_append, List.length_cons]
      omega
    unfold entsT at ih ⊢
    simp only [List.flatMap_cons, List.length_append, List.length_cons]
    omega
theorem ok_take {l : List Ent} (k : Nat) (h : OkL l) : OkL (l.take k) := by
  refine ⟨?_, fun e he => h.2 e (List.mem_of_mem_take he)⟩
  have := h.1
  unfold OnceL at this ⊢
  rw [List.map_take]
  exact this.sublist (List.take_sublist _ _)
theorem fit_take {l : List Ent} (k : Nat) (h : LFit l) : LFit (l.take k) := fun e he => h e (List.mem_of_mem_take he)
theorem fitsBl : Fits 118 2 := ⟨by kernel_rfl, by decide⟩

set_option maxHeartbeats 4000000 in
theorem tell_slot {J : Nat} {H : He} {h s c n f i B b : Nat} {v : Value} {g q col : Nat → Nat} {x : Ob} {l0 : List UInt8} {w0 : World} (p : HpAt J H h s c n f v g q col w0) (hJ : J ≤ 900000) (hf : HFit H) (hi : H.os[i]? = some x) (h0 : x.sh ≠ 0) (hB : B = w0.heap.size)
    (w : World) (Bw : Below w0.heap.size w0 w) (hb : Has 118 [] B b l0 w) (hl0 : l0.length ≤ 100000000000) :
    Calls Tryz.prog 46 #[.pointer (some ⟨g i, 0, none⟩), .pointer (some ⟨b, 0, none⟩), .int .i64 ((i + 1 : Nat) : Int)] w fun e w' => e = .returned (.tuple #[]) ∧ Has 118 [] B b (l0 ++ obT i x) w' ∧ Below w0.heap.size w0 w' := by
  subst hB
  obtain ⟨b1, _, _⟩ := p.ob i x hi
  have hx := p.wf.obs i x hi
  have hil : i < 200 := by have := lt_of_get hi; have := p.wf.len; have := p.wf.most; omega
  obtain ⟨vv, h1, _⟩ := p.slotted hi h0
  have HPr := hid (fun (w1 : World) (b : Below w0.heap.size w0 w1) => sproto_calls w1 (p.cls.on b) (h1.on b))
  rw [(p.named (by omega) hi h0).2.1] at HPr
  have HCn := hid (fun (w1 : World) (b : Below w0.heap.size w0 w1) => scount_calls w1 (h1.on b))
  have HKy := hid (fun (w1 : World) (b : Below w0.heap.size w0 w1) (j : Int) => skey_calls w1 (p.cls.on b) (h1.on b) (p.named (by omega) hi h0).1 j)
  have HOw := hid (fun (w1 : World) (b : Below w0.heap.size w0 w1) (nm : ByteArray) (hn : nm.size ≤ 1000000) => sown_calls w1 (p.cls.on b) (h1.on b) nm hn)
  have HSlt := hid (fun nm => (p.slot hi h0 nm).1)
  have EC := hid (fun (w1 : World) (b : Below w0.heap.size w0 w1) => show w1.cell? ⟨g i, 0, none⟩ = some (.iface 161 (.pointer (some ⟨q i, 0, none⟩))) from hcell_on (by rw [blk_cell b1]; simp [ivO, h0]) (blk_lt b1) b)
  have hgl0 := blk_lt b1
  have HM1 := hid (mark_calls ((i + 1 : Nat) : Int) (by unfold I64; omega))
  have HM2 := hid (mark_calls (x.pr : Int) (by have := hx.pr; have := p.wf.len; have := p.wf.most; unfold I64; omega))
  have HOk := hid hx.ok
  have hfew : x.l.length ≤ 32 := hx.few
  have HF := hid (hf i x hi)
  have e0 := EC.out w Bw
  have hgl : g i < w.heap.size := Nat.lt_of_lt_of_le hgl0 Bw.size
  have HB := hid hb
  have HBw := hid Bw
  generalize hot : obT i x = ot
  have HOT := hid hot
  clear p h1 b1 hx hi hf hb Bw hot
  generalize hoo : ((i + 1 : Nat) : Int) = o at *
  have HOo := hid hoo
  clear hoo
  go_enter Tryz.func46, Tryz.ntmps46
  go_wp2_with fail
  refine wp_region_held_drew (S := fun a => a.cell? ⟨g i, 0, none⟩ = some (.iface 161 (.pointer (some ⟨q i, 0, none⟩)))) (by kernel_rfl) ?_ (fun hHeld => ?_)
  · go_simp
  refine tkk 0 ?_
  refine tkk 1 ?_
  refine tkk 4 ?_
  refine tkk 5 ?_
  refine tkk 6 ?_
  refine tkk 7 ?_
  refine rdy 2 (fun K hK => ?_)
  go_simp
  refine (HM1.out _).mono ?_
  rintro e1 w1 ⟨m1, rfl, t1, z1, bb1⟩
  have B1 := hid (below_in HBw.out (Nat.le_refl _) ((Below.refl w.heap.size w).drew.trans bb1))
  have e0 := EC.out w1 B1.out
  have T1 := hid t1
  have hb1 := hid (has_at HB.out ((Below.refl w.heap.size w).drew.trans bb1))
  have hgl1 : g i < w1.heap.size := Nat.lt_of_lt_of_le hgl0 B1.out.size
  have n1 : ¬ (9223372036854775807 < m1.size + 1) := by omega
  clear bb1 t1 HB HBw
  go_simp
  refine hK.out _ _ ?_ (fun _ => ?_)
  · (first | assumption | go_simp)
  clear hK K
  refine tkk 3 ?_
  refine rdy 8 (fun K hK => ?_)
  go_simp
  refine (HPr.out w1 B1.out).mono ?_
  rintro e2 w2 ⟨rfl, bb2⟩
  have B2 := hid (below_in B1.out (Nat.le_refl _) bb2)
  have e0 := EC.out w2 B2.out
  have hb2 := hid (has_at hb1.out bb2)
  have hgl2 : g i < w2.heap.size := Nat.lt_of_lt_of_le hgl0 B2.out.size
  clear bb2 hb1 B1
  go_simp
  refine hK.out _ _ ?_ (fun _ => ?_)
  · (first | assumption | go_simp)
  clear hK K
  refine rdy 9 (fun K hK => ?_)
  go_simp
  refine (HM2.out w2).mono ?_
  rintro e3 w3 ⟨m2, rfl, t2, z2, bb3⟩
  have B3 := hid (below_in B2.out (Nat.le_refl _) bb3)
  have e0 := EC.out w3 B3.out
  have T2 := hid t2
  have hb3 := hid (has_at hb2.out bb3)
  have hgl3 : g i < w3.heap.size := Nat.lt_of_lt_of_le hgl0 B3.out.size
  have n2 : ¬ (9223372036854775807 < m1.size + 1 + m2.size) := by omega
  clear bb3 t2 hb2 B2
  go_simp
  refine hK.out _ _ ?_ (fun _ => ?_)
  · (first | assumption | go_simp)
  clear hK K
  refine tkk 10 ?_
  have L3 : Hid (bys (m1 ++ ⟨#[32]⟩ ++ m2) = (35 :: digs o) ++ [32] ++ (35 :: digs (x.pr : Int))) := hid (by rw [bys_append, bys_append, T1.out, T2.out]; rfl)
  generalize hsm : m1 ++ ⟨#[32]⟩ ++ m2 = sm at *
  have hsz : sm.size ≤ 10000001 := by rw [← hsm, ByteArray.size_append, ByteArray.size_append]; have : (⟨#[32]⟩ : ByteArray).size = 1 := rfl; omega
  have hsn : sm.data.toList ≠ [] := by have := L3.out; unfold bys at this; rw [this]; simp
  have HW := hid (writeString_calls 118 [] w0.heap.size b l0 sm hsn w3 hb3.out fitsBl (by omega) B3.out.size)
  clear hsm n2 n1
  refine rdy 11 (fun K hK => ?_)
  go_simp
  refine HW.out.mono ?_
  rintro e4 w4 ⟨rfl, hb4, bb4⟩
  have B4 := hid (B3.out.trans bb4)
  have e0 := EC.out w4 B4.out
  have hgl4 : g i < w4.heap.size := Nat.lt_of_lt_of_le hgl0 B4.out.size
  have hb4' : Has 118 [] w0.heap.size b (l0 ++ (bys sm ++ entsT (x.l.take 0))) w4 := by rw [List.take_zero]; simpa [entsT, bys] using hb4
  have H4 := hid hb4'
  clear bb4 hb4 hb4' HW hb3 B3
  go_simp
  refine hK.out _ _ ?_ (fun _ => ?_)
  · (first | assumption | go_simp)
  clear hK K
  refine wpAnyH_done (by kernel_rfl) ?_ _
  have hbs : (bys sm).length ≤ 10000001 := by rw [bys_size]; exact hsz
  go_wp2_with fail
  refine (HCn.out w4 B4.out).mono ?_
  rintro e5 w5 ⟨rfl, rfl⟩
  go_wp2_with fail
  go_loopw [28] (fun a wr => ∃ k : Nat, k ≤ x.l.length ∧ a = .int .i64 k ∧ Hid (Has 118 [] w0.heap.size b (l0 ++ (bys sm ++ entsT (x.l.take k))) wr) ∧ Hid (Below w0.heap.size w0 wr)) (fun a _ => x.l.length - (intOf a).toNat)
  case atStart => exact ⟨0, Nat.zero_le _, rfl, H4, B4⟩
  case round =>
    obtain ⟨k, hk, rfl, hH, hBr⟩ := hrel
    have hel : (entsT (x.l.take k)).length ≤ 192000000 := by
      have := ents_len (ok_take k HOk.out) (fit_take k HF.out)
      have h2 : (x.l.take k).length ≤ 32 := by rw [List.length_take]; omega
      omega
    have e0r := EC.out wr hBr.out
    have hglr : g i < wr.heap.size := Nat.lt_of_lt_of_le hgl0 hBr.out.size
    by_cases hkl : k < x.l.length
    · obtain ⟨e, he⟩ : ∃ e, x.l[k]? = some e := ⟨x.l[k], List.getElem?_eq_getElem hkl⟩
      have hes : e.1.size ≤ 1000000 := HOk.out.2 e (List.mem_of_getElem? he)
      have HKk := hid (HKy.out wr hBr.out (k : Int))
      rw [keyL_at (s := e.1) (v := e.2) he] at HKk
      have HFe := hid (HF.out e (List.mem_of_getElem? he))
      have HEt := hid (ents_take he)
      have hlk := look_at (s := e.1) (v := e.2) HOk.out.1 he
      have HLk := hid hlk
      clear he hlk
      unfold strO at HKk
      go_wp2_with fail
      refine HKk.out.mono ?_
      rintro e6 w6 ⟨rfl, bb6⟩
      have B6 := hid (below_in hBr.out (Nat.le_refl _) bb6)
      have e0s := EC.out w6 B6.out
      have hgl6 : g i < w6.heap.size := Nat.lt_of_lt_of_le hgl0 B6.out.size
      have hb6 := hid (has_at hH.out bb6)
      have HO := hid (HOw.out w6 B6.out e.1 hes)
      rw [HSlt.out e.1] at HO
      rw [HLk.out] at HO
      unfold vlV vlO at HO
      clear bb6 hH hBr HKk
      dsimp only [Option.getD_some, Option.isSome_some] at HO ⊢
      go_wp2_with fail
      refine HO.out.mono ?_
      rintro e7 w7 ⟨rfl, bb7⟩
      have a7 := (Below.refl w7.heap.size w7).alloc (Nat.le_refl _) (Obj.cells #[.int .i64 e.2.1, .int .i64 e.2.2.1, .string e.2.2.2] 37)
      have B7 := hid (below_in (below_in B6.out (Nat.le_refl _) bb7) (Nat.le_refl _) a7)
      have hb7 := hid (has_at (has_at hb6.out bb7) a7)
      have HPn := hid (hprint_calls e.2 HFe.out (w7.alloc (Obj.cells #[.int .i64 e.2.1, .int .i64 e.2.2.1, .string e.2.2.2] 37)))
      have n5 : ¬ (9223372036854775807 < 1 + e.1.size) := by omega
      have n6 : ¬ (9223372036854775807 < 1 + e.1.size + 1) := by omega
      clear bb7 hb6 a7 HO B6
      go_wp2_with fail
      refine HPn.out.mono ?_
      rintro e8 w8 ⟨m8, rfl, t8, z8, bb8⟩
      have B8 := hid (below_in B7.out (Nat.le_refl _) bb8)
      have hb8 := hid (has_at hb7.out bb8)
      have n7 : ¬ (9223372036854775807 < 1 + e.1.size + 1 + m8.size) := by omega
      have T8 := hid t8
      clear bb8 hb7 HPn B7 t8
      have L8 : Hid (bys ((⟨#[32]⟩ : ByteArray) ++ e.1 ++ ⟨#[58]⟩ ++ m8) = entT e) := hid (by rw [bys_append, bys_append, bys_append, T8.out]; simp [entT, bys])
      have hsz8 : ((⟨#[32]⟩ : ByteArray) ++ e.1 ++ ⟨#[58]⟩ ++ m8).size ≤ 6000002 := by rw [ByteArray.size_append, ByteArray.size_append, ByteArray.size_append]; have : (⟨#[32]⟩ : ByteArray).size = 1 := rfl; have : (⟨#[58]⟩ : ByteArray).size = 1 := rfl; omega
      have hsn8 : ((⟨#[32]⟩ : ByteArray) ++ e.1 ++ ⟨#[58]⟩ ++ m8).data.toList ≠ [] := by have := L8.out; unfold bys at this; rw [this]; simp [entT]
      have HW := hid (writeString_calls 118 [] w0.heap.size b (l0 ++ (bys sm ++ entsT (x.l.take k))) _ hsn8 w8 hb8.out fitsBl (by simp only [List.length_append]; omega) B8.out.size)
      clear hsz8 hsn8
      go_wp2_with fail
      refine HW.out.mono ?_
      rintro e9 w9 ⟨rfl, hb9, bb9⟩
      have B9 := hid (B8.out.trans bb9)
      have H9 : Hid (Has 118 [] w0.heap.size b (l0 ++ (bys sm ++ entsT (x.l.take (k + 1)))) w9) := hid (by
        rw [HEt.out, ← L8.out]
        simpa [bys, List.append_assoc] using hb9)
      clear bb9 hb9 HW hb8 B8
      go_wp2_with fail
      exact ⟨⟨k + 1, by omega, by simp, H9, B9⟩, by simp [intOf]; omega⟩
    · have hke : k = x.l.length := by omega
      subst hke
      have HW := hid (writeString_calls 118 [] w0.heap.size b (l0 ++ (bys sm ++ entsT (x.l.take x.l.length))) ⟨#[10]⟩ (by simp) wr hH.out fitsBl (by simp only [List.length_append]; have : (⟨#[10]⟩ : ByteArray).size = 1 := rfl; omega) hBr.out.size)
      go_wp2_with fail
      refine HW.out.mono ?_
      rintro e9 w9 ⟨rfl, hb9, bb9⟩
      have B9 := hid (hBr.out.trans bb9)
      have H9 : Hid (Has 118 [] w0.heap.size b (l0 ++ ot) w9) := hid (by
        rw [← HOT.out]
        unfold obT
        rw [HOo.out]
        rw [List.take_length] at hb9
        rw [← L3.out]
        simpa [List.append_assoc] using hb9)
      clear bb9 hb9 HW
      go_wp2_with fail
      go_end0
      exact ⟨rfl, H9.out, B9.out⟩

set_option maxHeartbeats 4000000 in
theorem tell_dict {J : Nat} {H : He} {h s c n f i B b : Nat} {v : Value} {g q col : Nat → Nat} {x : Ob} {l0 : List UInt8} {w0 : World} (p : HpAt J H h s c n f v g q col w0) (hJ : J ≤ 900000) (hf : HFit H) (hi : H.os[i]? = some x) (h0 : x.sh = 0) (hB : B = w0.heap.size)
    (w : World) (Bw : Below w0.heap.size w0 w) (hb : Has 118 [] B b l0 w) (hl0 : l0.length ≤ 100000000000) :
    Calls Tryz.prog 46 #[.pointer (some ⟨g i, 0, none⟩), .pointer (some ⟨b, 0, none⟩), .int .i64 ((i + 1 : Nat) : Int)] w fun e w' => e = .returned (.tuple #[]) ∧ Has 118 [] B b (l0 ++ obT i x) w' ∧ Below w0.heap.size w0 w' := by
  subst hB
  obtain ⟨b1, _, _⟩ := p.ob i x hi
  have hx := p.wf.obs i x hi
  have hil : i < 200 := by have := lt_of_get hi; have := p.wf.len; have := p.wf.most; omega
  obtain ⟨m, h1, hm⟩ := p.dict hi h0
  have HPr := hid (fun (w1 : World) (b : Below w0.heap.size w0 w1) => dproto_calls w1 (h1.on b))
  have HCn := hid (fun (w1 : World) (b : Below w0.heap.size w0 w1) => dcount_calls w1 (h1.on b))
  have HKy := hid (fun (w1 : World) (b : Below w0.heap.size w0 w1) (j : Int) => dkey_calls w1 (h1.on b) (by omega) j)
  have HOw := hid (fun (w1 : World) (b : Below w0.heap.size w0 w1) (nm : ByteArray) (hn : nm.size ≤ 1000000) => down_calls w1 (h1.on b) nm hn)
  have EC := hid (fun (w1 : World) (b : Below w0.heap.size w0 w1) => show w1.cell? ⟨g i, 0, none⟩ = some (.iface 199 (.pointer (some ⟨q i, 0, none⟩))) from hcell_on (by rw [blk_cell b1]; simp [ivO, h0]) (blk_lt b1) b)
  have hgl0 := blk_lt b1
  have HM1 := hid (mark_calls ((i + 1 : Nat) : Int) (by unfold I64; omega))
  have HM2 := hid (mark_calls (x.pr : Int) (by have := hx.pr; have := p.wf.len; have := p.wf.most; unfold I64; omega))
  have HOk := hid hx.ok
  have hfew : x.l.length ≤ 32 := hx.few
  have HF := hid (hf i x hi)
  have e0 := EC.out w Bw
  have hgl : g i < w.heap.size := Nat.lt_of_lt_of_le hgl0 Bw.size
  have HB := hid hb
  have HBw := hid Bw
  generalize hot : obT i x = ot
  have HOT := hid hot
  clear p h1 b1 hx hi hf hb Bw hot hm
  generalize hoo : ((i + 1 : Nat) : Int) = o at *
  have HOo := hid hoo
  clear hoo
  go_enter Tryz.func46, Tryz.ntmps46
  go_wp2_with fail
  refine wp_region_held_drew (S := fun a => a.cell? ⟨g i, 0, none⟩ = some (.iface 199 (.pointer (some ⟨q i, 0, none⟩)))) (by kernel_rfl) ?_ (fun hHeld => ?_)
  · go_simp
  refine tkk 0 ?_
  refine tkk 1 ?_
  refine tkk 4 ?_
  refine tkk 5 ?_
  refine tkk 6 ?_
  refine tkk 7 ?_
  refine rdy 2 (fun K hK => ?_)
  go_simp
  refine (HM1.out _).mono ?_
  rintro e1 w1 ⟨m1, rfl, t1, z1, bb1⟩
  have B1 := hid (below_in HBw.out (Nat.le_refl _) ((Below.refl w.heap.size w).drew.trans bb1))
  have e0 := EC.out w1 B1.out
  have T1 := hid t1
  have hb1 := hid (has_at HB.out ((Below.refl w.heap.size w).drew.trans bb1))
  have hgl1 : g i < w1.heap.size := Nat.lt_of_lt_of_le hgl0 B1.out.size
  have n1 : ¬ (9223372036854775807 < m1.size + 1) := by omega
  clear bb1 t1 HB HBw
  go_simp
  refine hK.out _ _ ?_ (fun _ => ?_)
  · (first | assumption | go_simp)
  clear hK K
  refine tkk 3 ?_
  refine rdy 8 (fun K hK => ?_)
  go_simp
  refine (HPr.out w1 B1.out).mono ?_
  rintro e2 w2 ⟨rfl, bb2⟩
  have B2 := hid (below_in B1.out (Nat.le_refl _) bb2)
  have e0 := EC.out w2 B2.out
  have hb2 := hid (has_at hb1.out bb2)
  have hgl2 : g i < w2.heap.size := Nat.lt_of_lt_of_le hgl0 B2.out.size
  clear bb2 hb1 B1
  go_simp
  refine hK.out _ _ ?_ (fun _ => ?_)
  · (first | assumption | go_simp)
  clear hK K
  refine rdy 9 (fun K hK => ?_)
  go_simp
  refine (HM2.out w2).mono ?_
  rintro e3 w3 ⟨m2, rfl, t2, z2, bb3⟩
  have B3 := hid (below_in B2.out (Nat.le_refl _) bb3)
  have e0 := EC.out w3 B3.out
  have T2 := hid t2
  have hb3 := hid (has_at hb2.out bb3)
  have hgl3 : g i < w3.heap.size := Nat.lt_of_lt_of_le hgl0 B3.out.size
  have n2 : ¬ (9223372036854775807 < m1.size + 1 + m2.size) := by omega
  clear bb3 t2 hb2 B2
  go_simp
  refine hK.out _ _ ?_ (fun _ => ?_)
  · (first | assumption | go_simp)
  clear hK K
  refine tkk 10 ?_
  have L3 : Hid (bys (m1 ++ ⟨#[32]⟩ ++ m2) = (35 :: digs o) ++ [32] ++ (35 :: digs (x.pr : Int))) := hid (by rw [bys_append, bys_append, T1.out, T2.out]; rfl)
  generalize hsm : m1 ++ ⟨#[32]⟩ ++ m2 = sm at *
  have hsz : sm.size ≤ 10000001 := by rw [← hsm, ByteArray.size_append, ByteArray.size_append]; have : (⟨#[32]⟩ : ByteArray).size = 1 := rfl; omega
  have hsn : sm.data.toList ≠ [] := by have := L3.out; unfold bys at this; rw [this]; simp
  have HW := hid (writeString_calls 118 [] w0.heap.size b l0 sm hsn w3 hb3.out fitsBl (by omega) B3.out.size)
  clear hsm n2 n1
  refine rdy 11 (fun K hK => ?_)
  go_simp
  refine HW.out.mono ?_
  rintro e4 w4 ⟨rfl, hb4, bb4⟩
  have B4 := hid (B3.out.trans bb4)
  have e0 := EC.out w4 B4.out
  have hgl4 : g i < w4.heap.size := Nat.lt_of_lt_of_le hgl0 B4.out.size
  have hb4' : Has 118 [] w0.heap.size b (l0 ++ (bys sm ++ entsT (x.l.take 0))) w4 := by rw [List.take_zero]; simpa [entsT, bys] using hb4
  have H4 := hid hb4'
  clear bb4 hb4 hb4' HW hb3 B3
  go_simp
  refine hK.out _ _ ?_ (fun _ => ?_)
  · (first | assumption | go_simp)
  clear hK K
  refine wpAnyH_done (by kernel_rfl) ?_ _
  have hbs : (bys sm).length ≤ 10000001 := by rw [bys_size]; exact hsz
  go_wp2_with fail
  refine (HCn.out w4 B4.out).mono ?_
  rintro e5 w5 ⟨rfl, rfl⟩
  go_wp2_with fail
  go_loopw [28] (fun a wr => ∃ k : Nat, k ≤ x.l.length ∧ a = .int .i64 k ∧ Hid (Has 118 [] w0.heap.size b (l0 ++ (bys sm ++ entsT (x.l.take k))) wr) ∧ Hid (Below w0.heap.size w0 wr)) (fun a _ => x.l.length - (intOf a).toNat)
  case atStart => exact ⟨0, Nat.zero_le _, rfl, H4, B4⟩
  case round =>
    obtain ⟨k, hk, rfl, hH, hBr⟩ := hrel
    have hel : (entsT (x.l.take k)).length ≤ 192000000 := by
      have := ents_len (ok_take k HOk.out) (fit_take k HF.out)
      have h2 : (x.l.take k).length ≤ 32 := by rw [List.length_take]; omega
      omega
    have e0r := EC.out wr hBr.out
    have hglr : g i < wr.heap.size := Nat.lt_of_lt_of_le hgl0 hBr.out.size
    by_cases hkl : k < x.l.length
    · obtain ⟨e, he⟩ : ∃ e, x.l[k]? = some e := ⟨x.l[k], List.getElem?_eq_getElem hkl⟩
      have hes : e.1.size ≤ 1000000 := HOk.out.2 e (List.mem_of_getElem? he)
      have HKk := hid (HKy.out wr hBr.out (k : Int))
      rw [keyL_at (s := e.1) (v := e.2) he] at HKk
      have HFe := hid (HF.out e (List.mem_of_getElem? he))
      have HEt := hid (ents_take he)
      have hlk := look_at (s := e.1) (v := e.2) HOk.out.1 he
      have HLk := hid hlk
      clear he hlk
      dsimp only [Option.getD_some, Option.isSome_some] at HKk
      go_wp2_with fail
      refine HKk.out.mono ?_
      rintro e6 w6 ⟨rfl, bb6⟩
      have B6 := hid (below_in hBr.out (Nat.le_refl _) bb6)
      have e0s := EC.out w6 B6.out
      have hgl6 : g i < w6.heap.size := Nat.lt_of_lt_of_le hgl0 B6.out.size
      have hb6 := hid (has_at hH.out bb6)
      have HO := hid (HOw.out w6 B6.out e.1 hes)
      unfold gotV hasL at HO
      rw [HLk.out] at HO
      unfold vlV at HO
      clear bb6 hH hBr HKk
      dsimp only [Option.getD_some, Option.isSome_some] at HO ⊢
      go_wp2_with fail
      refine HO.out.mono ?_
      rintro e7 w7 ⟨rfl, bb7⟩
      have a7 := (Below.refl w7.heap.size w7).alloc (Nat.le_refl _) (Obj.cells #[.int .i64 e.2.1, .int .i64 e.2.2.1, .string e.2.2.2] 37)
      have B7 := hid (below_in (below_in B6.out (Nat.le_refl _) bb7) (Nat.le_refl _) a7)
      have hb7 := hid (has_at (has_at hb6.out bb7) a7)
      have HPn := hid (hprint_calls e.2 HFe.out (w7.alloc (Obj.cells #[.int .i64 e.2.1, .int .i64 e.2.2.1, .string e.2.2.2] 37)))
      have n5 : ¬ (9223372036854775807 < 1 + e.1.size) := by omega
      have n6 : ¬ (9223372036854775807 < 1 + e.1.size + 1) := by omega
      clear bb7 hb6 a7 HO B6
      go_wp2_with fail
      refine HPn.out.mono ?_
      rintro e8 w8 ⟨m8, rfl, t8, z8, bb8⟩
      have B8 := hid (below_in B7.out (Nat.le_refl _) bb8)
      have hb8 := hid (has_at hb7.out bb8)
      have n7 : ¬ (9223372036854775807 < 1 + e.1.size + 1 + m8.size) := by omega
      have T8 := hid t8
      clear bb8 hb7 HPn B7 t8
      have L8 : Hid (bys ((⟨#[32]⟩ : ByteArray) ++ e.1 ++ ⟨#[58]⟩ ++ m8) = entT e) := hid (by rw [bys_append, bys_append, bys_append, T8.out]; simp [entT, bys])
      have hsz8 : ((⟨#[32]⟩ : ByteArray) ++ e.1 ++ ⟨#[58]⟩ ++ m8).size ≤ 6000002 := by rw [ByteArray.size_append, ByteArray.size_append, ByteArray.size_append]; have : (⟨#[32]⟩ : ByteArray).size = 1 := rfl; have : (⟨#[58]⟩ : ByteArray).size = 1 := rfl; omega
      have hsn8 : ((⟨#[32]⟩ : ByteArray) ++ e.1 ++ ⟨#[58]⟩ ++ m8).data.toList ≠ [] := by have := L8.out; unfold bys at this; rw [this]; simp [entT]
      have HW := hid (writeString_calls 118 [] w0.heap.size b (l0 ++ (bys sm ++ entsT (x.l.take k))) _ hsn8 w8 hb8.out fitsBl (by simp only [List.length_append]; omega) B8.out.size)
      clear hsz8 hsn8
      go_wp2_with fail
      refine HW.out.mono ?_
      rintro e9 w9 ⟨rfl, hb9, bb9⟩
      have B9 := hid (B8.out.trans bb9)
      have H9 : Hid (Has 118 [] w0.heap.size b (l0 ++ (bys sm ++ entsT (x.l.take (k + 1)))) w9) := hid (by
        rw [HEt.out, ← L8.out]
        simpa [bys, List.append_assoc] using hb9)
      clear bb9 hb9 HW hb8 B8
      go_wp2_with fail
      exact ⟨⟨k + 1, by omega, by simp, H9, B9⟩, by simp [intOf]; omega⟩
    · have hke : k = x.l.length := by omega
      subst hke
      have HW := hid (writeString_calls 118 [] w0.heap.size b (l0 ++ (bys sm ++ entsT (x.l.take x.l.length))) ⟨#[10]⟩ (by simp) wr hH.out fitsBl (by simp only [List.length_append]; have : (⟨#[10]⟩ : ByteArray).size = 1 := rfl; omega) hBr.out.size)
      go_wp2_with fail
      refine HW.out.mono ?_
      rintro e9 w9 ⟨rfl, hb9, bb9⟩
      have B9 := hid (hBr.out.trans bb9)
      have H9 : Hid (Has 118 [] w0.heap.size b (l0 ++ ot) w9) := hid (by
        rw [← HOT.out]
        unfold obT
        rw [HOo.out]
        rw [List.take_length] at hb9
        rw [← L3.out]
        simpa [List.append_assoc] using hb9)
      clear bb9 hb9 HW
      go_wp2_with fail
      go_end0
      exact ⟨rfl, H9.out, B9.out⟩

theorem dump_len {H : He} {J : Nat} (W : WfH J H) (hf : HFit H) : ∀ k, k ≤ H.os.length → (dumpL 0 (H.os.take k)).length ≤ k * 193000000
  | 0, _ => by simp [dumpL]
  | k + 1, hk => by
    obtain ⟨x, hx⟩ : ∃ x, H.os[k]? = some x := ⟨H.os[k], List.getElem?_eq_getElem (by omega)⟩
    have ih := dump_len W hf k (by omega)
    have h1 := ents_len (W.obs k x hx).ok (hf k x hx)
    have h2 := (W.obs k x hx).few
    have h3 := digs_length ((k + 1 : Nat) : Int)
    have h4 := digs_length (x.pr : Int)
    rw [dump_take hx, List.length_append]
    unfold obT
    simp only [List.length_append, List.length_cons, List.length_nil]
    omega
set_option maxHeartbeats 2000000 in
theorem hdump_calls {S : Nat → Prop} {K h : Nat} {H : He} (w : World) (p : HpS S K h H w) (hK : K ≤ 900000) (hf : HFit H) :
    Calls Tryz.prog 16 #[.pointer (some ⟨h, 0, none⟩)] w fun e w' => e = .returned (.string ⟨(dumpT H).toArray⟩) ∧ Below w.heap.size w w' := by
  have HLn := hid (fun (w1 : World) (b : Below w.heap.size w w1) => hlen_calls w1 (p.on b))
  have hlen : H.os.length ≤ 200 := by have := p.wf.len; have := p.wf.most; omega
  have HDl := hid (dump_len p.wf hf)
  have HF := hid hf
  obtain ⟨s, c, n, f, v, g, q, col, p, hS⟩ := p
  have HP := hid p
  clear p hS hf
  have L0 : Hid (Has 118 [] w.heap.size w.heap.size (dumpL 0 (H.os.take 0)) (w.alloc (Obj.cells #[.pointer none, .slice none 0 0] 118))) := hid (by rw [List.take_zero]; exact has_new 118 [] w _ rfl)
  have B0 := hid ((Below.refl w.heap.size w).alloc (Nat.le_refl _) (Obj.cells #[.pointer none, .slice none 0 0] 118))
  generalize hdt : dumpT H = dt
  have HDT := hid hdt
  clear hdt
  go_enter Tryz.func16, Tryz.ntmps16
  go_wp2_with fail
  go_loopw [4] (fun a wr => ∃ k : Nat, k ≤ H.os.length ∧ a = .int .i64 ((k : Int) + 1) ∧ Hid (Has 118 [] w.heap.size w.heap.size (dumpL 0 (H.os.take k)) wr) ∧ Hid (Below w.heap.size w wr)) (fun a _ => H.os.length + 1 - (intOf a).toNat)
  case atStart => exact ⟨0, Nat.zero_le _, rfl, L0, B0⟩
  case round =>
    obtain ⟨k, hk, rfl, hH, hBr⟩ := hrel
    by_cases hkl : k < H.os.length
    · obtain ⟨x, hx⟩ : ∃ x, H.os[k]? = some x := ⟨H.os[k], List.getElem?_eq_getElem hkl⟩
      have HA := hid (hat_some wr (HP.out.on hBr.out) (lt_of_get hx))
      have HT : Hid (Calls Tryz.prog 46 #[.pointer (some ⟨g k, 0, none⟩), .pointer (some ⟨w.heap.size, 0, none⟩), .int .i64 ((k + 1 : Nat) : Int)] wr fun e w' => e = .returned (.tuple #[]) ∧ Has 118 [] w.heap.size w.heap.size (dumpL 0 (H.os.take k) ++ obT k x) w' ∧ Below w.heap.size w w') := hid (by
        have hl := HDl.out k hk
        by_cases h0 : x.sh = 0
        · exact tell_dict HP.out hK HF.out hx h0 rfl wr hBr.out hH.out (by omega)
        · exact tell_slot HP.out hK HF.out hx h0 rfl wr hBr.out hH.out (by omega))
      rw [← dump_take hx] at HT
      rw [show ((k + 1 : Nat) : Int) = (k : Int) + 1 by omega] at HA HT
      have hLn := hid (HLn.out wr hBr.out)
      clear hx
      go_wp2_with fail
      refine hLn.out.mono ?_
      rintro e1 w1 ⟨rfl, rfl⟩
      go_wp2_with fail
      refine HA.out.mono ?_
      rintro e2 w2 ⟨rfl, rfl⟩
      go_wp2_with fail
      refine HT.out.mono ?_
      rintro e3 w3 ⟨rfl, h3, b3⟩
      have H3 := hid h3
      have B3 := hid b3
      clear h3 b3 HT HA hLn
      go_wp2_with fail
      exact ⟨⟨k + 1, by omega, by simp, H3, B3⟩, by simp [intOf]; omega⟩
    · have hke : k = H.os.length := by omega
      subst hke
      have hLn := hid (HLn.out wr hBr.out)
      go_wp2_with fail
      refine hLn.out.mono ?_
      rintro e1 w1 ⟨rfl, rfl⟩
      have HSt := hid (string_calls 118 [] w.heap.size w.heap.size _ _ hH.out)
      go_wp2_with fail
      refine HSt.out.mono ?_
      rintro e2 w2 ⟨rfl, b2, _⟩
      have B2 := hid (hBr.out.trans b2)
      clear b2 HSt
      go_wp2_with fail
      go_ret
      refine ⟨?_, B2.out⟩
      rw [← HDT.out]
      rfl

end Go.Proofs.YtimhgbcanmgajaaGreat
