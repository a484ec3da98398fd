/- A local and a global: Resolve works. -/
import Derived.Test.YtmihckhflbepjaaDoorScResolve
namespace Go.Proofs.YtmihckhflbepjaaDoor
set_option linter.unusedSimpArgs false
open Go.RowKit

theorem strs1 {B g : Nat} {s : ByteArray} {w : World} (h : Blk g 9 #[.string s] w) (hg : g < B) : StrsIn B (.slice (some ⟨g, 0, none⟩) 1 1) [s] w := by
  refine .inr ⟨g, 0, 1, rfl, hg, fun i hi => ?_, Nat.le_refl _⟩
  have : i = 0 := by simpa using hi
  subst this
  rw [blk_cell h]; rfl
theorem strs0 {B : Nat} {w : World} : StrsIn B (.slice none 0 0) [] w := .inl ⟨none, 0, rfl, rfl⟩
theorem kids0 {B : Nat} {w : World} : KidsIn B w (.slice none 0 0) [] := .inl ⟨none, 0, rfl, rfl⟩
theorem nodeAt_blk {g o : Nat} {T : TypeId} {cs : Array Value} {k op n : Int} {s : ByteArray} {nv kv : Value} {p : Int} {w : World} (h : Blk g T cs w) (h0 : cs[o]? = some (.int .i64 k)) (h1 : cs[o + 1]? = some (.int .i64 op)) (h2 : cs[o + 2]? = some (.int .i64 n)) (h3 : cs[o + 3]? = some (.string s)) (h4 : cs[o + 4]? = some nv) (h5 : cs[o + 5]? = some kv) (h6 : cs[o + 6]? = some (.int .i64 p)) : NodeAt g o k op n s nv kv p w :=
  ⟨(blk_cell h _).trans h0, (blk_cell h _).trans h1, (blk_cell h _).trans h2, (blk_cell h _).trans h3, (blk_cell h _).trans h4, (blk_cell h _).trans h5, (blk_cell h _).trans h6⟩
theorem kids1 {B g : Nat} {k o n : Int} {s : ByteArray} {ns : List ByteArray} {ks : List Nd} {p : Int} {nv kv : Value} {w : World} (h : Blk g 25 #[.int .i64 k, .int .i64 o, .int .i64 n, .string s, nv, kv, .int .i64 p] w) (hg : g < B) (hs : StrsIn B nv ns w) (hk : KidsIn B w kv ks) :
    KidsIn B w (.slice (some ⟨g, 0, none⟩) 1 1) [.mk k o n s ns ks p] := by
  refine .inr ⟨g, 0, 1, rfl, hg, ?_, Nat.le_refl _⟩
  rw [NdsAt, NdsAt]
  exact ⟨⟨nv, kv, nodeAt_blk h rfl rfl rfl rfl rfl rfl rfl, ndIn_mk.2 ⟨hs, hk⟩⟩, trivial⟩
theorem kids2 {B g : Nat} {k o n : Int} {s : ByteArray} {ns : List ByteArray} {ks : List Nd} {p : Int} {nv kv : Value} {k' o' n' : Int} {s' : ByteArray} {ns' : List ByteArray} {ks' : List Nd} {p' : Int} {nv' kv' : Value} {w : World}
    (h : Blk g 25 #[.int .i64 k, .int .i64 o, .int .i64 n, .string s, nv, kv, .int .i64 p, .int .i64 k', .int .i64 o', .int .i64 n', .string s', nv', kv', .int .i64 p'] w) (hg : g < B) (hs : StrsIn B nv ns w) (hk : KidsIn B w kv ks) (hs' : StrsIn B nv' ns' w) (hk' : KidsIn B w kv' ks') :
    KidsIn B w (.slice (some ⟨g, 0, none⟩) 2 2) [.mk k o n s ns ks p, .mk k' o' n' s' ns' ks' p'] := by
  refine .inr ⟨g, 0, 2, rfl, hg, ?_, Nat.le_refl _⟩
  rw [NdsAt, NdsAt, NdsAt]
  exact ⟨⟨nv, kv, nodeAt_blk h rfl rfl rfl rfl rfl rfl rfl, ndIn_mk.2 ⟨hs, hk⟩⟩, ⟨nv', kv', nodeAt_blk h rfl rfl rfl rfl rfl rfl rfl, ndIn_mk.2 ⟨hs', hk'⟩⟩, trivial⟩
abbrev e0 : ByteArray := ⟨#[]⟩
def wkA : Nd := .mk 5 0 0 ⟨#[97]⟩ [] [] 0
def wkB : Nd := .mk 5 0 0 ⟨#[98]⟩ [] [] 0
def wkT : Nd := .mk 29 0 0 e0 [] [.mk 21 0 0 ⟨#[97]⟩ [] [.mk 8 0 0 e0 [⟨#[98]⟩] [.mk 31 0 0 e0 [] [.mk 10 1 0 e0 [] [wkA, wkB] 0] 0] 0] 0] 0
def wkU : List Fp := [(0, 0, [.mk 34 0 0 e0 [] [.mk 20 0 1 e0 [] [] 0] 0]), (1, 1, [.mk 31 0 0 e0 [] [.mk 10 1 0 e0 [] [.mk 19 0 0 e0 [] [] 0, .mk 18 0 0 e0 [] [] 0] 0] 0])]
theorem wk_res : resolveP wkT = .ok (1, wkU) := by rfl
theorem wk_small : smallN wkT = true := by rfl
theorem wk_count : countN wkT ≤ 1000000 := by decide
theorem kids_of_nd {B : Nat} {w : World} {k o n : Int} {s : ByteArray} {ns : List ByteArray} {ks : List Nd} {p : Int} {nv kv : Value} (h : NdIn B w (.mk k o n s ns ks p) nv kv) : KidsIn B w kv ks := (ndIn_mk.1 h).2
/-- the functions of a unit, read -/
theorem un_cells {lo : Nat} {w : World} {fv : Value} {f0 f1 : Fp} (h : UnS lo w fv [f0, f1]) : ∃ g cap bv, fv = .slice (some ⟨g, 0, none⟩) 2 cap ∧ g < w.heap.size ∧ w.cell? ⟨g, 3, none⟩ = some (.int .i64 (f1.1 : Int)) ∧ w.cell? ⟨g, 5, none⟩ = some bv ∧ KidsIn w.heap.size w bv f1.2.2 := by
  obtain ⟨ok, ⟨cs, hown, hr, _⟩, hlt, _⟩ := h
  obtain ⟨bv0, cs0, rfl, _, bv1, cs1, rfl, hk1, hn⟩ := hr
  obtain ⟨g, cap, rfl, _, hg⟩ := hown.form (by simp)
  exact ⟨g, cap, bv1, rfl, hg, row_cell hown rfl, row_cell hown rfl, kidsS_in (fun b hb => (hlt b hb).2) hk1⟩

set_option maxHeartbeats 4000000 in
theorem works8_calls (w : World) (hO : Ok w.heap.size w) : Calls Tryd.prog 8 #[] w fun e w' => e = .returned (.bool true) ∧ Below w.heap.size w w' := by
  have HO := hid hO
  clear hO
  go_enter Tryd.func8, Tryd.ntmps8
  go_wp2_with fail
  have b0 := blk_new w 25 #[.int .i64 5, .int .i64 0, .int .i64 0, .string ⟨#[98]⟩, .slice none 0 0, .slice none 0 0, .int .i64 0]
  have A0 := (Below.refl w.heap.size w).alloc (Nat.le_refl _) (Obj.cells #[.int .i64 5, .int .i64 0, .int .i64 0, .string ⟨#[98]⟩, .slice none 0 0, .slice none 0 0, .int .i64 0] 25)
  have z0 : (w.alloc (Obj.cells #[.int .i64 5, .int .i64 0, .int .i64 0, .string ⟨#[98]⟩, .slice none 0 0, .slice none 0 0, .int .i64 0] 25)).heap.size = w.heap.size + 1 := by simp
  generalize w.alloc (Obj.cells #[.int .i64 5, .int .i64 0, .int .i64 0, .string ⟨#[98]⟩, .slice none 0 0, .slice none 0 0, .int .i64 0] 25) = w1 at *
  have L := A0
  have b1 := blk_new w1 25 #[.int .i64 5, .int .i64 0, .int .i64 0, .string ⟨#[97]⟩, .slice none 0 0, .slice none 0 0, .int .i64 0]
  have A1 := (Below.refl w1.heap.size w1).alloc (Nat.le_refl _) (Obj.cells #[.int .i64 5, .int .i64 0, .int .i64 0, .string ⟨#[97]⟩, .slice none 0 0, .slice none 0 0, .int .i64 0] 25)
  have z1 : (w1.alloc (Obj.cells #[.int .i64 5, .int .i64 0, .int .i64 0, .string ⟨#[97]⟩, .slice none 0 0, .slice none 0 0, .int .i64 0] 25)).heap.size = w.heap.size + 1 + 1 := by simp [z0]
  generalize w1.alloc (Obj.cells #[.int .i64 5, .int .i64 0, .int .i64 0, .string ⟨#[97]⟩, .slice none 0 0, .slice none 0 0, .int .i64 0] 25) = w2 at *
  rw [z0] at b1
  have b0 := blk_on b0 A1
  have L := below_on L A1
  have b2 := blk_new w2 9 #[.string ⟨#[98]⟩]
  have A2 := (Below.refl w2.heap.size w2).alloc (Nat.le_refl _) (Obj.cells #[.string ⟨#[98]⟩] 9)
  have z2 : (w2.alloc (Obj.cells #[.string ⟨#[98]⟩] 9)).heap.size = w.heap.size + 1 + 1 + 1 := by simp [z1]
  generalize w2.alloc (Obj.cells #[.string ⟨#[98]⟩] 9) = w3 at *
  rw [z1] at b2
  have b0 := blk_on b0 A2
  have b1 := blk_on b1 A2
  have L := below_on L A2
  have b3 := blk_new w3 25 #[.int .i64 5, .int .i64 0, .int .i64 0, .string ⟨#[97]⟩, .slice none 0 0, .slice none 0 0, .int .i64 0, .int .i64 5, .int .i64 0, .int .i64 0, .string ⟨#[98]⟩, .slice none 0 0, .slice none 0 0, .int .i64 0]
  have A3 := (Below.refl w3.heap.size w3).alloc (Nat.le_refl _) (Obj.cells #[.int .i64 5, .int .i64 0, .int .i64 0, .string ⟨#[97]⟩, .slice none 0 0, .slice none 0 0, .int .i64 0, .int .i64 5, .int .i64 0, .int .i64 0, .string ⟨#[98]⟩, .slice none 0 0, .slice none 0 0, .int .i64 0] 25)
  have z3 : (w3.alloc (Obj.cells #[.int .i64 5, .int .i64 0, .int .i64 0, .string ⟨#[97]⟩, .slice none 0 0, .slice none 0 0, .int .i64 0, .int .i64 5, .int .i64 0, .int .i64 0, .string ⟨#[98]⟩, .slice none 0 0, .slice none 0 0, .int .i64 0] 25)).heap.size = w.heap.size + 1 + 1 + 1 + 1 := by simp [z2]
  generalize w3.alloc (Obj.cells #[.int .i64 5, .int .i64 0, .int .i64 0, .string ⟨#[97]⟩, .slice none 0 0, .slice none 0 0, .int .i64 0, .int .i64 5, .int .i64 0, .int .i64 0, .string ⟨#[98]⟩, .slice none 0 0, .slice none 0 0, .int .i64 0] 25) = w4 at *
  rw [z2] at b3
  have b0 := blk_on b0 A3
  have b1 := blk_on b1 A3
  have b2 := blk_on b2 A3
  have L := below_on L A3
  have b4 := blk_new w4 25 #[.int .i64 10, .int .i64 1, .int .i64 0, .string ⟨#[]⟩, .slice none 0 0, .slice (some ⟨w.heap.size + 1 + 1 + 1, 0, none⟩) 2 2, .int .i64 0]
  have A4 := (Below.refl w4.heap.size w4).alloc (Nat.le_refl _) (Obj.cells #[.int .i64 10, .int .i64 1, .int .i64 0, .string ⟨#[]⟩, .slice none 0 0, .slice (some ⟨w.heap.size + 1 + 1 + 1, 0, none⟩) 2 2, .int .i64 0] 25)
  have z4 : (w4.alloc (Obj.cells #[.int .i64 10, .int .i64 1, .int .i64 0, .string ⟨#[]⟩, .slice none 0 0, .slice (some ⟨w.heap.size + 1 + 1 + 1, 0, none⟩) 2 2, .int .i64 0] 25)).heap.size = w.heap.size + 1 + 1 + 1 + 1 + 1 := by simp [z3]
  generalize w4.alloc (Obj.cells #[.int .i64 10, .int .i64 1, .int .i64 0, .string ⟨#[]⟩, .slice none 0 0, .slice (some ⟨w.heap.size + 1 + 1 + 1, 0, none⟩) 2 2, .int .i64 0] 25) = w5 at *
  rw [z3] at b4
  have b0 := blk_on b0 A4
  have b1 := blk_on b1 A4
  have b2 := blk_on b2 A4
  have b3 := blk_on b3 A4
  have L := below_on L A4
  have b5 := blk_new w5 25 #[.int .i64 31, .int .i64 0, .int .i64 0, .string ⟨#[]⟩, .slice none 0 0, .slice (some ⟨w.heap.size + 1 + 1 + 1 + 1, 0, none⟩) 1 1, .int .i64 0]
  have A5 := (Below.refl w5.heap.size w5).alloc (Nat.le_refl _) (Obj.cells #[.int .i64 31, .int .i64 0, .int .i64 0, .string ⟨#[]⟩, .slice none 0 0, .slice (some ⟨w.heap.size + 1 + 1 + 1 + 1, 0, none⟩) 1 1, .int .i64 0] 25)
  have z5 : (w5.alloc (Obj.cells #[.int .i64 31, .int .i64 0, .int .i64 0, .string ⟨#[]⟩, .slice none 0 0, .slice (some ⟨w.heap.size + 1 + 1 + 1 + 1, 0, none⟩) 1 1, .int .i64 0] 25)).heap.size = w.heap.size + 1 + 1 + 1 + 1 + 1 + 1 := by simp [z4]
  generalize w5.alloc (Obj.cells #[.int .i64 31, .int .i64 0, .int .i64 0, .string ⟨#[]⟩, .slice none 0 0, .slice (some ⟨w.heap.size + 1 + 1 + 1 + 1, 0, none⟩) 1 1, .int .i64 0] 25) = w6 at *
  rw [z4] at b5
  have b0 := blk_on b0 A5
  have b1 := blk_on b1 A5
  have b2 := blk_on b2 A5
  have b3 := blk_on b3 A5
  have b4 := blk_on b4 A5
  have L := below_on L A5
  have b6 := blk_new w6 25 #[.int .i64 8, .int .i64 0, .int .i64 0, .string ⟨#[]⟩, .slice (some ⟨w.heap.size + 1 + 1, 0, none⟩) 1 1, .slice (some ⟨w.heap.size + 1 + 1 + 1 + 1 + 1, 0, none⟩) 1 1, .int .i64 0]
  have A6 := (Below.refl w6.heap.size w6).alloc (Nat.le_refl _) (Obj.cells #[.int .i64 8, .int .i64 0, .int .i64 0, .string ⟨#[]⟩, .slice (some ⟨w.heap.size + 1 + 1, 0, none⟩) 1 1, .slice (some ⟨w.heap.size + 1 + 1 + 1 + 1 + 1, 0, none⟩) 1 1, .int .i64 0] 25)
  have z6 : (w6.alloc (Obj.cells #[.int .i64 8, .int .i64 0, .int .i64 0, .string ⟨#[]⟩, .slice (some ⟨w.heap.size + 1 + 1, 0, none⟩) 1 1, .slice (some ⟨w.heap.size + 1 + 1 + 1 + 1 + 1, 0, none⟩) 1 1, .int .i64 0] 25)).heap.size = w.heap.size + 1 + 1 + 1 + 1 + 1 + 1 + 1 := by simp [z5]
  generalize w6.alloc (Obj.cells #[.int .i64 8, .int .i64 0, .int .i64 0, .string ⟨#[]⟩, .slice (some ⟨w.heap.size + 1 + 1, 0, none⟩) 1 1, .slice (some ⟨w.heap.size + 1 + 1 + 1 + 1 + 1, 0, none⟩) 1 1, .int .i64 0] 25) = w7 at *
  rw [z5] at b6
  have b0 := blk_on b0 A6
  have b1 := blk_on b1 A6
  have b2 := blk_on b2 A6
  have b3 := blk_on b3 A6
  have b4 := blk_on b4 A6
  have b5 := blk_on b5 A6
  have L := below_on L A6
  have b7 := blk_new w7 25 #[.int .i64 8, .int .i64 0, .int .i64 0, .string ⟨#[]⟩, .slice (some ⟨w.heap.size + 1 + 1, 0, none⟩) 1 1, .slice (some ⟨w.heap.size + 1 + 1 + 1 + 1 + 1, 0, none⟩) 1 1, .int .i64 0]
  have A7 := (Below.refl w7.heap.size w7).alloc (Nat.le_refl _) (Obj.cells #[.int .i64 8, .int .i64 0, .int .i64 0, .string ⟨#[]⟩, .slice (some ⟨w.heap.size + 1 + 1, 0, none⟩) 1 1, .slice (some ⟨w.heap.size + 1 + 1 + 1 + 1 + 1, 0, none⟩) 1 1, .int .i64 0] 25)
  have z7 : (w7.alloc (Obj.cells #[.int .i64 8, .int .i64 0, .int .i64 0, .string ⟨#[]⟩, .slice (some ⟨w.heap.size + 1 + 1, 0, none⟩) 1 1, .slice (some ⟨w.heap.size + 1 + 1 + 1 + 1 + 1, 0, none⟩) 1 1, .int .i64 0] 25)).heap.size = w.heap.size + 1 + 1 + 1 + 1 + 1 + 1 + 1 + 1 := by simp [z6]
  generalize w7.alloc (Obj.cells #[.int .i64 8, .int .i64 0, .int .i64 0, .string ⟨#[]⟩, .slice (some ⟨w.heap.size + 1 + 1, 0, none⟩) 1 1, .slice (some ⟨w.heap.size + 1 + 1 + 1 + 1 + 1, 0, none⟩) 1 1, .int .i64 0] 25) = w8 at *
  rw [z6] at b7
  have b0 := blk_on b0 A7
  have b1 := blk_on b1 A7
  have b2 := blk_on b2 A7
  have b3 := blk_on b3 A7
  have b4 := blk_on b4 A7
  have b5 := blk_on b5 A7
  have b6 := blk_on b6 A7
  have L := below_on L A7
  have b8 := blk_new w8 25 #[.int .i64 21, .int .i64 0, .int .i64 0, .string ⟨#[97]⟩, .slice none 0 0, .slice (some ⟨w.heap.size + 1 + 1 + 1 + 1 + 1 + 1 + 1, 0, none⟩) 1 1, .int .i64 0]
  have A8 := (Below.refl w8.heap.size w8).alloc (Nat.le_refl _) (Obj.cells #[.int .i64 21, .int .i64 0, .int .i64 0, .string ⟨#[97]⟩, .slice none 0 0, .slice (some ⟨w.heap.size + 1 + 1 + 1 + 1 + 1 + 1 + 1, 0, none⟩) 1 1, .int .i64 0] 25)
  have z8 : (w8.alloc (Obj.cells #[.int .i64 21, .int .i64 0, .int .i64 0, .string ⟨#[97]⟩, .slice none 0 0, .slice (some ⟨w.heap.size + 1 + 1 + 1 + 1 + 1 + 1 + 1, 0, none⟩) 1 1, .int .i64 0] 25)).heap.size = w.heap.size + 1 + 1 + 1 + 1 + 1 + 1 + 1 + 1 + 1 := by simp [z7]
  generalize w8.alloc (Obj.cells #[.int .i64 21, .int .i64 0, .int .i64 0, .string ⟨#[97]⟩, .slice none 0 0, .slice (some ⟨w.heap.size + 1 + 1 + 1 + 1 + 1 + 1 + 1, 0, none⟩) 1 1, .int .i64 0] 25) = w9 at *
  rw [z7] at b8
  have b0 := blk_on b0 A8
  have b1 := blk_on b1 A8
  have b2 := blk_on b2 A8
  have b3 := blk_on b3 A8
  have b4 := blk_on b4 A8
  have b5 := blk_on b5 A8
  have b6 := blk_on b6 A8
  have b7 := blk_on b7 A8
  have L := below_on L A8
  have hN : NdIn w9.heap.size w9 wkT (.slice none 0 0) (.slice (some ⟨w.heap.size + 1 + 1 + 1 + 1 + 1 + 1 + 1 + 1, 0, none⟩) 1 1) := by
    unfold wkT
    refine ndIn_mk.2 ⟨strs0, kids1 b8 (by omega) strs0 (kids1 b7 (by omega) (strs1 b2 (by omega)) (kids1 b5 (by omega) strs0 (kids1 b4 (by omega) strs0 (kids2 b3 (by omega) strs0 kids0 strs0 kids0))))⟩
  have HL := hid L
  have HR := hid (resolve_calls wkT w9.heap.size w9 _ _ (hid (ok_up L.size (Nat.le_refl _) (ok_on HO.out L))) (hid hN) wk_small wk_count)
  rw [wk_res] at HR
  have HZ := hid z8
  clear hN L
  clear b0 A0
  clear b1 A1
  clear b2 A2
  clear b3 A3
  clear b4 A4
  clear b5 A5
  clear b6 A6
  clear b7 A7
  clear b8 A8
  clear z0 z1 z2 z3 z4 z5 z6 z7 z8
  refine HR.out.mono ?_
  rintro e10 w10 ⟨b10, fv, rfl, hU⟩
  obtain ⟨g, cap, bv, rfl, hg, g3, g5, hk⟩ := un_cells hU
  simp only at g3 hk
  obtain ⟨ka, kc, rfl, _⟩ := kidsIn_cases hk
  obtain ⟨b1, o1, a11, c11, a12, c12, rfl, hb1, hn1, hd1⟩ := kid_node (j := 0) hk rfl
  have hk2 := kids_of_nd hd1
  obtain ⟨b2, o2, a21, c21, a22, c22, rfl, hb2, hn2, hd2⟩ := kid_node (j := 0) hk2 rfl
  have hk3 := kids_of_nd hd2
  obtain ⟨b3, o3, a31, c31, a32, c32, rfl, hb3, hn3, hd3⟩ := kid_node (j := 0) hk3 rfl
  obtain ⟨_, _, _, _, _, p1, _⟩ := hn1
  obtain ⟨_, _, _, _, _, p2, _⟩ := hn2
  obtain ⟨p3, _⟩ := hn3
  simp only [Nd.kind, Nd.kids, Nat.zero_mul, Nat.add_zero, List.length_cons, List.length_nil, Nat.zero_add] at p1 p2 p3
  have HB := hid (below_on HL.out b10)
  clear hU hk hk2 hk3 hd1 hd2 hd3 b10 HR HL
  go_wp2_with fail
  go_ret
  exact ⟨rfl, (HB.out.alloc (HB.out.size) _)⟩

end Go.Proofs.YtmihckhflbepjaaDoor
