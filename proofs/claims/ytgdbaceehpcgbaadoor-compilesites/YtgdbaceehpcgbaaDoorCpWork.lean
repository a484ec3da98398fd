/- The test that stage 15's statements ask of themselves. -/
import Derived.Test.YtgdbaceehpcgbaaDoorCpUM2
import Derived.Test.YtgdbaceehpcgbaaDoorJoint23
namespace Go.Proofs.YtgdbaceehpcgbaaDoor
set_option linter.unusedSimpArgs false
open Go.RowKit

theorem tick2 : wr64 (tickQ [(⟨0, 0, 0, 1, [(1, 1, 0), (1, 1, 0), (4, 1, 0), (32, 0, 0), (2, 0, 0), (32, 0, 0)]⟩ : Cd)]) = 2 := by
  rw [show tickQ [(⟨0, 0, 0, 1, [(1, 1, 0), (1, 1, 0), (4, 1, 0), (32, 0, 0), (2, 0, 0), (32, 0, 0)]⟩ : Cd)] = 2 from rfl]
  unfold wr64 wrap64
  decide
def wkU : List Fq := [(0, 0, [.mk 31 0 0 ⟨#[]⟩ [] [.mk 3 0 1 ⟨#[]⟩ [] [] 0] 0])]
def wkI : List In := [(1, 1, 0), (1, 1, 0), (4, 1, 0), (32, 0, 0), (2, 0, 0), (32, 0, 0)]
theorem wkU_is : unitC 0 wkU = .ok [⟨0, 0, 0, 1, wkI⟩] [] := by rfl
theorem cstrs0 {B : Nat} {w : World} : StrsIn B (.slice none 0 0) [] w := .inl ⟨none, 0, rfl, rfl⟩
theorem ckids0 {B : Nat} {w : World} : KidsIn B w (.slice none 0 0) [] := .inl ⟨none, 0, rfl, rfl⟩
theorem ckids1 {B b : Nat} {w : World} {k o n p : Int} {s : ByteArray} {nv kv : Value} {ns : List ByteArray} {ks : List Nd} (h : Blk b 47 #[.int .i64 k, .int .i64 o, .int .i64 n, .string s, nv, kv, .int .i64 p] w) (hb : b < B) (h1 : StrsIn B nv ns w) (h2 : KidsIn B w kv ks) :
    KidsIn B w (.slice (some ⟨b, 0, none⟩) 1 1) [.mk k o n s ns ks p] := by
  refine .inr ⟨b, 0, 1, rfl, hb, ?_, by simp⟩
  rw [NdsAt, NdsAt]
  exact ⟨⟨nv, kv, ⟨blk_cellZ h 0 rfl, blk_cellZ h 1 rfl, blk_cellZ h 2 rfl, blk_cellZ h 3 rfl, blk_cellZ h 4 rfl, blk_cellZ h 5 rfl, blk_cellZ h 6 rfl⟩, ndIn_mk.2 ⟨h1, h2⟩⟩, trivial⟩
theorem cok_up {B C : Nat} {w : World} (h : Ok B w) (hB : B ≤ C) (hC : C ≤ w.heap.size) : Ok C w := ⟨hC, Nat.lt_of_lt_of_le h.2.1 hB, h.2.2⟩
set_option maxHeartbeats 4000000 in
set_option maxRecDepth 100000 in
theorem works15_calls (w : World) (hO : Ok w.heap.size w) : Calls Tryd.prog 9 #[] w fun e w' => e = .returned (.bool true) ∧ Below w.heap.size w w' := by
  have b0 := blk_new w 47 #[.int .i64 3, .int .i64 0, .int .i64 1, .string ⟨#[]⟩, .slice none 0 0, .slice none 0 0, .int .i64 0]
  have A0 := (Below.refl w.heap.size w).alloc (Nat.le_refl _) (Obj.cells #[.int .i64 3, .int .i64 0, .int .i64 1, .string ⟨#[]⟩, .slice none 0 0, .slice none 0 0, .int .i64 0] 47)
  have z0 : (w.alloc (Obj.cells #[.int .i64 3, .int .i64 0, .int .i64 1, .string ⟨#[]⟩, .slice none 0 0, .slice none 0 0, .int .i64 0] 47)).heap.size = w.heap.size + 1 := by simp
  go_enter Tryd.func9, Tryd.ntmps9
  go_wp2_with fail
  generalize w.alloc (Obj.cells #[.int .i64 3, .int .i64 0, .int .i64 1, .string ⟨#[]⟩, .slice none 0 0, .slice none 0 0, .int .i64 0] 47) = w1 at *
  have b1 := blk_new w1 47 #[.int .i64 31, .int .i64 0, .int .i64 0, .string ⟨#[]⟩, .slice none 0 0, .slice (some ⟨w.heap.size, 0, none⟩) 1 1, .int .i64 0]
  have A1 := (Below.refl w1.heap.size w1).alloc (Nat.le_refl _) (Obj.cells #[.int .i64 31, .int .i64 0, .int .i64 0, .string ⟨#[]⟩, .slice none 0 0, .slice (some ⟨w.heap.size, 0, none⟩) 1 1, .int .i64 0] 47)
  have z1 : (w1.alloc (Obj.cells #[.int .i64 31, .int .i64 0, .int .i64 0, .string ⟨#[]⟩, .slice none 0 0, .slice (some ⟨w.heap.size, 0, none⟩) 1 1, .int .i64 0] 47)).heap.size = w.heap.size + 1 + 1 := by simp [z0]
  generalize w1.alloc (Obj.cells #[.int .i64 31, .int .i64 0, .int .i64 0, .string ⟨#[]⟩, .slice none 0 0, .slice (some ⟨w.heap.size, 0, none⟩) 1 1, .int .i64 0] 47) = w2 at *
  rw [z0] at b1
  have b0 := blk_on b0 A1
  have L := below_on A0 A1
  have b2 := blk_new w2 44 #[.int .i64 0, .int .i64 0, .slice (some ⟨w.heap.size + 1, 0, none⟩) 1 1]
  have A2 := (Below.refl w2.heap.size w2).alloc (Nat.le_refl _) (Obj.cells #[.int .i64 0, .int .i64 0, .slice (some ⟨w.heap.size + 1, 0, none⟩) 1 1] 44)
  have z2 : (w2.alloc (Obj.cells #[.int .i64 0, .int .i64 0, .slice (some ⟨w.heap.size + 1, 0, none⟩) 1 1] 44)).heap.size = w.heap.size + 1 + 1 + 1 := by simp [z1]
  generalize w2.alloc (Obj.cells #[.int .i64 0, .int .i64 0, .slice (some ⟨w.heap.size + 1, 0, none⟩) 1 1] 44) = w3 at *
  rw [z1] at b2
  have b0 := blk_on b0 A2
  have b1 := blk_on b1 A2
  have L := below_on L A2
  have b3 := blk_new w3 24 #[.int .i64 0, .slice (some ⟨w.heap.size + 1 + 1, 0, none⟩) 1 1]
  have A3 := (Below.refl w3.heap.size w3).alloc (Nat.le_refl _) (Obj.cells #[.int .i64 0, .slice (some ⟨w.heap.size + 1 + 1, 0, none⟩) 1 1] 24)
  have z3 : (w3.alloc (Obj.cells #[.int .i64 0, .slice (some ⟨w.heap.size + 1 + 1, 0, none⟩) 1 1] 24)).heap.size = w.heap.size + 1 + 1 + 1 + 1 := by simp [z2]
  generalize w3.alloc (Obj.cells #[.int .i64 0, .slice (some ⟨w.heap.size + 1 + 1, 0, none⟩) 1 1] 24) = w4 at *
  rw [z2] at b3
  have b0 := blk_on b0 A3
  have b1 := blk_on b1 A3
  have b2 := blk_on b2 A3
  have L := below_on L A3
  have hF : FnsIn w4.heap.size w4 (.slice (some ⟨w.heap.size + 1 + 1, 0, none⟩) 1 1) wkU := by
    refine .inr ⟨w.heap.size + 1 + 1, 0, 1, rfl, by omega, fun i f hi => ?_, by simp [wkU]⟩
    cases i with
    | zero =>
      obtain rfl : _ = f := by simpa [wkU] using hi
      exact ⟨_, blk_cellZ b2 0 rfl, blk_cellZ b2 1 rfl, blk_cellZ b2 2 rfl, ckids1 b1 (by omega) cstrs0 (ckids1 b0 (by omega) cstrs0 ckids0)⟩
    | succ i => simp [wkU] at hi
  have hFew : FewU wkU := ⟨by simp [wkU], fun f hf => by
    obtain rfl : f = _ := by simpa [wkU] using hf
    exact ⟨by decide, by decide⟩⟩
  have HL := hid L
  have HU := hid (unit_calls 0 wkU w4.heap.size w4 (.slice (some ⟨w.heap.size + 1 + 1, 0, none⟩) 1 1) (hid (cok_up (ok_on hO L) L.size (Nat.le_refl _))) (hid hF) (hid hFew) (by decide) (by decide))
  clear b0 b1 b2 b3 A0 A1 A2 A3 z0 z1 z2 z3 L hF hFew hO
  refine HU.out.mono ?_
  rintro e w5 ⟨hUO, b5⟩
  unfold UnitOut at hUO
  rw [wkU_is] at hUO
  obtain ⟨pv, cv, rfl, hPG⟩ := hUO
  have H5 := hid (HL.out.trans (b5.mono HL.out.size))
  obtain ⟨pa, pc, rfl⟩ := plIn_shape hPG.pool
  obtain ⟨ca, cc, rfl⟩ := cdsIn_shape hPG.codes
  obtain ⟨cb, coff, rfl, hcb, iv, d0, d1, d2, d3, d4, hI⟩ := cdsIn_at hPG.codes (i := 0) rfl
  obtain ⟨ia, ic, rfl⟩ := insIn_shape hI
  obtain ⟨ib, ioff, rfl, hib, i0, i1, i2⟩ := insIn_at hI (i := 2) rfl
  have HT := hid (fun W (q : Below w5.heap.size w5 W) => ticks_calls w5.heap.size ⟨0, [], [⟨0, 0, 0, 1, wkI⟩]⟩ (.slice pa 0 pc) _ W q.size (hid ⟨⟨pa, (0, pc), rfl⟩, cdsIn_on hPG.codes q, by simp, fun c hc => by rw [List.mem_singleton.1 hc]; simp [wkI]⟩))
  simp only [List.length_cons, List.length_nil, Nat.zero_add, Nat.zero_mul, Nat.add_zero, wkI, Nat.reduceMul, Nat.reduceAdd] at *
  clear hPG hI HU HL b5
  have A6 := hid ((Below.refl w5.heap.size w5).alloc (Nat.le_refl _) (.cells #[.int .i64 0, .slice pa 0 pc, .slice (some ⟨cb, coff, none⟩) 1 cc] 30))
  have HT2 := HT.out _ A6.out
  rw [show wr64 (tickQ [(⟨0, 0, 0, 1, [(1, 1, 0), (1, 1, 0), (4, 1, 0), (32, 0, 0), (2, 0, 0), (32, 0, 0)]⟩ : Cd)]) = 2 from tick2] at HT2
  have HT3 := hid HT2
  clear HT HT2
  go_wp2_with fail
  refine HT3.out.mono ?_
  rintro e w6 ⟨rfl, b6⟩
  have L6 := hid (H5.out.trans ((A6.out.trans (b6.mono A6.out.size)).mono H5.out.size))
  clear b6
  go_wp2_with fail
  go_ret
  exact ⟨rfl, L6.out⟩
end Go.Proofs.YtgdbaceehpcgbaaDoor
