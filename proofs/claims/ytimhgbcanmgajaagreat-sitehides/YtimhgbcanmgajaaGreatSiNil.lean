/- Tables of sites that are not there, and such as no call made. -/
import Derived.Test.YtimhgbcanmgajaaGreatSiGet
import Derived.Test.YtimhgbcanmgajaaGreatSiSet
namespace Go.Proofs.YtimhgbcanmgajaaGreat
set_option linter.unusedSimpArgs false
set_option linter.unusedVariables false
set_option maxRecDepth 100000
open Go.RowKit

def NoT (pa : Option Addr) (w : World) : Prop := pa = none ∨ ∃ b, pa = some ⟨b, 0, none⟩ ∧ Blk b 69 #[.pointer none] w
theorem NoT.on {pa : Option Addr} {a b : World} (h : NoT pa a) (k : Below a.heap.size a b) : NoT pa b := by
  rcases h with h | ⟨x, h, hb⟩
  · exact .inl h
  · exact .inr ⟨x, h, blk_on hb k⟩
theorem NoT.keep {S : Nat → Prop} {pa : Option Addr} {a b : World} (h : NoT pa a) (k : Keep S a b) (hs : ∀ x, pa = some ⟨x, 0, none⟩ → ¬ S x) : NoT pa b := by
  rcases h with h | ⟨x, h, hb⟩
  · exact .inl h
  · exact .inr ⟨x, h, blk_keep hb k (hs x h)⟩
theorem nmade_calls (w : World) {pa : Option Addr} (p : NoT pa w) :
    Calls Tryz.prog 78 #[.pointer pa] w fun e w' => e = .returned (.bool false) ∧ w' = w := by
  rcases p with rfl | ⟨b, rfl, hb⟩
  · go_enter Tryz.func78, Tryz.ntmps78
    go_wp2_with fail
    go_ret
    exact ⟨rfl, rfl⟩
  · have c0 := blk_cell hb 0
    simp only [List.getElem?_toArray, List.getElem?_cons_zero] at c0
    have lb := blk_lt hb
    clear hb
    go_enter Tryz.func78, Tryz.ntmps78
    go_wp2_with fail
    go_ret
    exact ⟨rfl, rfl⟩
theorem nfun_calls (w : World) {pa : Option Addr} (p : NoT pa w) (f : Int) :
    Calls Tryz.prog 68 #[.pointer pa, .int .i64 f] w fun e w' => e = .returned (.pointer none) ∧ w' = w := by
  have HM := hid (nmade_calls w p)
  clear p
  go_enter Tryz.func68, Tryz.ntmps68
  go_wp2_with fail
  refine HM.out.mono ?_
  rintro e1 w1 ⟨rfl, rfl⟩
  go_wp2_with fail
  go_ret
  exact ⟨rfl, rfl⟩
theorem npart_calls (w : World) {pa : Option Addr} (p : NoT pa w) (hv : Option Addr) (f k o : Int) (nm : ByteArray) (b : Bool) :
    Calls Tryz.prog 52 #[.pointer pa, .pointer hv, .int .i64 f, .int .i64 k, .int .i64 o, .agg #[.string nm, .bool b]] w fun e w' => e = .returned (.pointer none) ∧ Below w.heap.size w w' := by
  have A := (Below.refl w.heap.size w).alloc (Nat.le_refl _) (Obj.cells #[.string nm, .bool b] 139)
  have H1 := hid (nfun_calls _ (p.on A) f)
  have H2 := hid (fun w => shas_none w k)
  have HA := hid A
  clear p A
  go_enter Tryz.func52, Tryz.ntmps52
  go_wp2_with fail
  refine H1.out.mono ?_
  rintro e1 w1 ⟨rfl, rfl⟩
  go_wp2_with fail
  refine (H2.out _).mono ?_
  rintro e2 w2 ⟨rfl, rfl⟩
  go_wp2_with fail
  go_ret
  exact ⟨rfl, HA.out⟩
theorem nnote_calls (w : World) {pa : Option Addr} (p : NoT pa w) (b : Bool) :
    Calls Tryz.prog 55 #[.pointer pa, .bool b] w fun e w' => e = .returned (.tuple #[]) ∧ w' = w := by
  have HM := hid (nmade_calls w p)
  clear p
  go_enter Tryz.func55, Tryz.ntmps55
  go_wp2_with fail
  refine HM.out.mono ?_
  rintro e1 w1 ⟨rfl, rfl⟩
  go_wp2_with fail
  go_end0
  exact ⟨rfl, rfl⟩
theorem nflush_calls (w : World) {pa : Option Addr} (p : NoT pa w) (f : Int) :
    Calls Tryz.prog 25 #[.pointer pa, .int .i64 f] w fun e w' => e = .returned (.tuple #[]) ∧ w' = w := by
  have H1 := hid (nfun_calls w p f)
  clear p
  go_enter Tryz.func25, Tryz.ntmps25
  go_wp2_with fail
  refine H1.out.mono ?_
  rintro e1 w1 ⟨rfl, rfl⟩
  go_wp2_with fail
  go_end0
  exact ⟨rfl, rfl⟩
theorem nmega_calls (w : World) {pa : Option Addr} (p : NoT pa w) (f : Int) :
    Calls Tryz.prog 26 #[.pointer pa, .int .i64 f] w fun e w' => e = .returned (.tuple #[]) ∧ w' = w := by
  have H1 := hid (nfun_calls w p f)
  clear p
  go_enter Tryz.func26, Tryz.ntmps26
  go_wp2_with fail
  refine H1.out.mono ?_
  rintro e1 w1 ⟨rfl, rfl⟩
  go_wp2_with fail
  go_end0
  exact ⟨rfl, rfl⟩
theorem nstate_calls (w : World) {pa : Option Addr} (p : NoT pa w) (f k : Int) :
    Calls Tryz.prog 28 #[.pointer pa, .int .i64 f, .int .i64 k] w fun e w' => e = .returned (.tuple #[.int .i64 0, .slice none 0 0]) ∧ w' = w := by
  have H1 := hid (nfun_calls w p f)
  have H2 := hid (fun w => shas_none w k)
  clear p
  go_enter Tryz.func28, Tryz.ntmps28
  go_wp2_with fail
  refine H1.out.mono ?_
  rintro e1 w1 ⟨rfl, rfl⟩
  go_wp2_with fail
  refine (H2.out _).mono ?_
  rintro e2 w2 ⟨rfl, rfl⟩
  go_wp2_with fail
  go_ret2
  exact ⟨rfl, rfl⟩
theorem nname_calls (w : World) {pa : Option Addr} (p : NoT pa w) (f k : Int) :
    Calls Tryz.prog 30 #[.pointer pa, .int .i64 f, .int .i64 k] w fun e w' => e = .returned (.tuple #[.string ⟨#[]⟩, .bool false, .bool false]) ∧ w' = w := by
  have H1 := hid (nfun_calls w p f)
  have H2 := hid (fun w => shas_none w k)
  clear p
  go_enter Tryz.func30, Tryz.ntmps30
  go_wp2_with fail
  refine H1.out.mono ?_
  rintro e1 w1 ⟨rfl, rfl⟩
  go_wp2_with fail
  refine (H2.out _).mono ?_
  rintro e2 w2 ⟨rfl, rfl⟩
  go_wp2_with fail
  go_ret3
  exact ⟨rfl, rfl⟩
theorem ncounts_calls (w : World) {pa : Option Addr} (p : NoT pa w) :
    Calls Tryz.prog 31 #[.pointer pa] w fun e w' => e = .returned (.tuple #[.int .i64 0, .int .i64 0]) ∧ w' = w := by
  have HM := hid (nmade_calls w p)
  clear p
  go_enter Tryz.func31, Tryz.ntmps31
  go_wp2_with fail
  refine HM.out.mono ?_
  rintro e1 w1 ⟨rfl, rfl⟩
  go_wp2_with fail
  go_ret2
  exact ⟨rfl, rfl⟩
set_option maxHeartbeats 1000000 in
theorem nget_calls {S : Nat → Prop} {J h : Nat} {H : He} (w : World) (p : HpS S J h H w) {pa : Option Addr} (q : NoT pa w) (hJ : J ≤ 900000) (f k o : Int) (nm : ByteArray) (hn : nm.size ≤ 1000000) :
    Calls Tryz.prog 19 #[.pointer pa, .pointer (some ⟨h, 0, none⟩), .int .i64 f, .int .i64 k, .int .i64 o, .string nm] w fun e w' => e = .returned (vlV (gotH H o nm)) ∧ Below w.heap.size w w' := by
  have A := (Below.refl w.heap.size w).alloc (Nat.le_refl _) (Obj.cells #[.int .i64 0, .int .i64 0, .string ⟨#[]⟩] 37)
  have HP := hid (npart_calls _ (q.on A) (some ⟨h, 0, none⟩) f k o nm false)
  have HS := hid (slot_new w rfl 37)
  have HA := hid A
  have HQ := hid q
  have HH := hid p
  have l0 : w.heap.size < (w.alloc (Obj.cells #[.int .i64 0, .int .i64 0, .string ⟨#[]⟩] 37)).heap.size := by simp
  have B0 := hid (blk_new w 37 #[.int .i64 0, .int .i64 0, .string ⟨#[]⟩])
  clear A p q
  generalize hz : gotH H o nm = u
  have HZ := hid hz
  clear hz
  generalize hW : w.alloc (Obj.cells #[.int .i64 0, .int .i64 0, .string ⟨#[]⟩] 37) = w1 at *
  clear HS
  unfold vlV
  go_enter Tryz.func19, Tryz.ntmps19
  go_wp2_with fail
  refine HP.out.mono ?_
  rintro e1 w2 ⟨rfl, b2⟩
  have HA2 := hid (below_on HA.out b2)
  have HB2 := hid (blk_on B0.out b2)
  have HN := hid (sknown_nil w2 (.pointer (some ⟨h, 0, none⟩)) o)
  clear b2 HP HA B0 hW
  go_wp2_with fail
  refine HN.out.mono ?_
  rintro e3 w3 ⟨rfl, b3⟩
  have b3' := below_on b3 ((Below.refl w3.heap.size w3).alloc (Nat.le_refl _) (Obj.cells #[.int .i64 0, .int .i64 0, .int .i64 0, .int .i64 0, .slice none 0 0, .pointer none] 141))
  have HA3 := hid (below_on HA2.out b3')
  have HB3 := hid (blk_on HB2.out b3')
  have HNo := hid (nnote_calls _ (HQ.out.on HA3.out) false)
  have HGt := hid (hget_calls _ (HH.out.on HA3.out) hJ o nm hn)
  rw [HZ.out] at HGt
  unfold vlV at HGt
  clear b3 b3' HN HA2 HB2
  go_wp2_with fail
  refine HNo.out.mono ?_
  rintro e4 w4 ⟨rfl, rfl⟩
  go_wp2_with fail
  refine HGt.out.mono ?_
  rintro e5 w5 ⟨rfl, b5⟩
  have HA5 := hid (below_on HA3.out b5)
  have HB5 := hid (blk_on HB3.out b5)
  clear b5 HGt HNo HA3 HB3
  obtain ⟨f1, c1, l1⟩ := blk_own HB5.out
  go_wp2_with fail
  refine bodyPost_ret (ret_v (g := w.heap.size) rfl rfl ⟨by simp [go_sem, c1], by simp [go_sem, c1], by simp [go_sem, c1]⟩) rfl ⟨rfl, ?_⟩
  exact below_set (below_set (below_set HA5.out (Nat.le_refl _) _) (Nat.le_refl _) _) (Nat.le_refl _) _
set_option maxHeartbeats 1000000 in
theorem nset_calls {S : Nat → Prop} {J h : Nat} {H : He} (w : World) (p : HpS S J h H w) {pa : Option Addr} (q : NoT pa w) (h40 : 40 ≤ J) (hJ : J ≤ 800000) (f k o : Int) (nm : ByteArray) (hn : nm.size ≤ 1000000) (v : Vl) :
    Calls Tryz.prog 21 #[.pointer pa, .pointer (some ⟨h, 0, none⟩), .int .i64 f, .int .i64 k, .int .i64 o, .string nm, vlV v] w fun e w' => e = .returned (.int .i64 (setE H o nm)) ∧ HpS (Up S w) (J + 1) h (setH H o nm v) w' ∧ Keep S w w' := by
  have A := (Below.refl w.heap.size w).alloc (Nat.le_refl _) (Obj.cells #[.int .i64 v.1, .int .i64 v.2.1, .string v.2.2] 37)
  have HP := hid (npart_calls _ (q.on A) (some ⟨h, 0, none⟩) f k o nm true)
  have HA := hid A
  have HQ := hid q
  have HH := hid p
  have B0 := hid (blk_new w 37 #[.int .i64 v.1, .int .i64 v.2.1, .string v.2.2])
  clear A p q
  generalize hW : w.alloc (Obj.cells #[.int .i64 v.1, .int .i64 v.2.1, .string v.2.2] 37) = w1 at *
  generalize hz : setE H o nm = u
  have HZ := hid hz
  clear hz
  unfold vlV
  go_enter Tryz.func21, Tryz.ntmps21
  go_wp2_with fail
  refine HP.out.mono ?_
  rintro e1 w2 ⟨rfl, b2⟩
  have HA2 := hid (below_on HA.out b2)
  have HB2 := hid (blk_on B0.out b2)
  have HN := hid (sknown_nil w2 (.pointer (some ⟨h, 0, none⟩)) o)
  clear b2 HP HA B0 hW
  go_wp2_with fail
  refine HN.out.mono ?_
  rintro e3 w3 ⟨rfl, b3⟩
  have b3' := below_on b3 ((Below.refl w3.heap.size w3).alloc (Nat.le_refl _) (Obj.cells #[.int .i64 0, .int .i64 0, .int .i64 0, .int .i64 0, .slice none 0 0, .pointer none] 141))
  have HA3 := hid (below_on HA2.out b3')
  have HB3 := hid (blk_on HB2.out b3')
  have HNo := hid (nnote_calls _ (HQ.out.on HA3.out) false)
  have HS1 := hid (hshape_calls _ (HH.out.on HA3.out) o)
  clear b3 b3' HN HA2 HB2
  go_wp2_with fail
  refine HNo.out.mono ?_
  rintro e4 w4 ⟨rfl, rfl⟩
  go_wp2_with fail
  refine HS1.out.mono ?_
  rintro e5 w5 ⟨rfl, b5⟩
  have HA5 := hid (below_on HA3.out b5)
  have HB5 := hid (blk_on HB3.out b5)
  have HSe := hid (hset_calls w5 (HH.out.on HA5.out) h40 (by omega) o nm hn v)
  unfold vlV at HSe
  rw [HZ.out] at HSe
  obtain ⟨f1, c1, l1⟩ := blk_own HB5.out
  clear b5 HS1 HNo HA3 HB3
  go_wp2_with fail
  refine HSe.out.mono ?_
  rintro e6 w6 ⟨rfl, p6, k6⟩
  have HP6 := hid p6
  have HK6 := hid k6
  have HS2 := hid (hshape_calls w6 p6 o)
  clear p6 k6 HSe f1 c1 l1
  go_wp2_with fail
  refine HS2.out.mono ?_
  rintro e7 w7 ⟨rfl, b7⟩
  have HB7 := hid b7
  clear b7 HS2
  generalize shapeH (setH H o nm v) o = sh2 at *
  go_wp2_with fail
  go_ret
  refine ⟨rfl, ?_, ?_⟩
  · exact (HP6.out.on HB7.out).mono (fun b _ e => by
      rcases e with e | e
      · exact .inl e
      · exact .inr (Nat.le_trans HA5.out.size e))
  · exact ((Keep.of (S := S) HA5.out).trans HK6.out (fun _ _ e => e)).trans (Keep.of (S := fun _ => False) HB7.out) (fun _ _ e => e.elim)
end Go.Proofs.YtimhgbcanmgajaaGreat
