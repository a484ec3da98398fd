/- What becomes of a node. -/
import Derived.Test.YtmihckhflbepjaaDoorTk
import Derived.Test.YtmihckhflbepjaaDoorScLaid
namespace Go.Proofs.YtmihckhflbepjaaDoor
set_option linter.unusedSimpArgs false
open Go.RowKit

set_option maxHeartbeats 8000000 in
theorem node_of (k o n : Int) (s : ByteArray) (ns : List ByteArray) (ks : List Nd) (p : Int) (hKids : KidsRes ks) (hFun : k = 8 → FunRes (.mk k o n s ns ks p)) : NodeRes (.mk k o n s ns ks p) := by
  intro B r gm lv fv gl lo fs ok nv kv w hRs hN hB hsm hc h32
  obtain ⟨h1, h2⟩ := ndIn_mk.1 hN.out
  obtain ⟨na, nc, rfl, _⟩ := strsIn_cases h1
  obtain ⟨ka, kc, rfl, _⟩ := kidsIn_cases h2
  obtain ⟨hs6, hns6, hnz, hsk⟩ := small_mk hsm
  have hrw := blk_lt hRs.out.blk
  have hfw : ∀ g, fv.ownBlock = some g → g < w.heap.size := fun g hg => by obtain ⟨cur, hc⟩ := fnsS_lt hRs.out.fn hg; exact blk_lt hc
  have A3 := (((Below.refl w.heap.size w).alloc (Nat.le_refl _) (Obj.cells #[.int .i64 k, .int .i64 o, .int .i64 n, .string s, .slice na ns.length nc, .slice ka ks.length kc, .int .i64 p] 25)).alloc (by simp) (Obj.cells #[.int .i64 0, .int .i64 0, .int .i64 0, .string ⟨#[]⟩, .slice none 0 0, .slice none 0 0, .int .i64 0] 25)).alloc (by simp; omega) (Obj.cells #[.int .i64 0, .int .i64 0] 53)
  have HL0 := hid (laid_new k o n s (.slice na ns.length nc) (.slice ka ks.length kc) p w)
  have HS0 := hid (strsIn_on h1 (A3.mono hB))
  have HZ0 := hid (show (((w.alloc (Obj.cells #[.int .i64 k, .int .i64 o, .int .i64 n, .string s, .slice na ns.length nc, .slice ka ks.length kc, .int .i64 p] 25)).alloc (Obj.cells #[.int .i64 0, .int .i64 0, .int .i64 0, .string ⟨#[]⟩, .slice none 0 0, .slice none 0 0, .int .i64 0] 25)).alloc (Obj.cells #[.int .i64 0, .int .i64 0] 53)).heap.size = w.heap.size + 1 + 1 + 1 by simp)
  have HA3 := hid A3
  have HNR : Hid (∀ b, w.heap.size ≤ b → ¬ RT r fv b) := hid (fun b hb e => by
    rcases e with e | e
    · omega
    · have := hfw b e; omega)
  have HRs := hid hRs.out
  have HN := hid hN.out
  have HKids := hid hKids
  have HFun := hid hFun
  clear hRs hN h1 h2 A3 hKids hFun
  unfold ndV
  simp only [Nd.kind, Nd.op, Nd.num, Nd.str, Nd.pl, Nd.names, Nd.kids]
  go_enter Tryd.func39, Tryd.ntmps39
  go_wp2_with fail
  generalize hW0 : ((w.alloc (Obj.cells #[.int .i64 k, .int .i64 o, .int .i64 n, .string s, .slice na ns.length nc, .slice ka ks.length kc, .int .i64 p] 25)).alloc (Obj.cells #[.int .i64 0, .int .i64 0, .int .i64 0, .string ⟨#[]⟩, .slice none 0 0, .slice none 0 0, .int .i64 0] 25)).alloc (Obj.cells #[.int .i64 0, .int .i64 0] 53) = w0 at *
  refine wp_region_held_drew (S := (fun a => a.cell? ⟨w.heap.size, 0, none⟩ = some (.int .i64 k) ∧ a.cell? ⟨w.heap.size, 1, none⟩ = some (.int .i64 o) ∧ a.cell? ⟨w.heap.size, 2, none⟩ = some (.int .i64 n) ∧ a.cell? ⟨w.heap.size, 3, none⟩ = some (.string s) ∧ a.cell? ⟨w.heap.size, 4, none⟩ = some (.slice na ns.length nc))) (by kernel_rfl) (by obtain ⟨q0, q1, q2, q3, q4, _⟩ := HL0.out.cells; exact ⟨q0, q1, q2, q3, q4⟩) (fun hHeld => ?_)
  refine tkk 0 ?_
  refine tkk 1 ?_
  refine tkk 2 ?_
  refine tkk 3 ?_
  refine tkk 4 ?_
  refine tkk 5 ?_
  refine tkk 6 ?_
  refine tkk 7 ?_
  refine tkk 8 ?_
  refine tkk 9 ?_
  refine wpAnyH_ready (rs := [10, 12]) (by kernel_rfl) (by simp) ?_
  refine AllReadyH.cons rfl (fun K hK => ?_) (AllReadyH.cons rfl (fun K hK => ?_) AllReadyH.nil)
  have HKK := hid hK
  clear hK
  go_simp
  refine (clone_calls w0.drew (strsIn_on HS0.out ((Below.refl w0.heap.size w0).drew.mono (by have := HZ0.out; omega))) (by have := HZ0.out; show B ≤ w0.heap.size; omega) (by omega)).mono ?_
  rintro e1 w1 ⟨v1, rfl, ss1, b1⟩
  obtain ⟨va, vc, rfl⟩ := strsS_shape ss1
  have B1 := hid ((Below.refl w0.heap.size w0).drew.trans b1)
  have L1 := hid (HL0.out.on B1.out)
  have SS1 := hid ss1
  refine HKK.out.out _ _ (by obtain ⟨q0, q1, q2, q3, q4, _⟩ := L1.out.cells; exact ⟨q0, q1, q2, q3, q4⟩) (fun _ => ?_)
  clear HKK K b1 ss1
  refine tkk 11 ?_
  refine rdy 12 (fun K hK => ?_)
  go_simp
  have A2 := (Below.refl w1.heap.size w1).alloc (Nat.le_refl _) (Obj.cells #[.int .i64 0, .int .i64 0, .int .i64 0, .string ⟨#[]⟩, .slice none 0 0, .slice none 0 0, .int .i64 0] 25)
  refine hK.out _ _ (by obtain ⟨q0, q1, q2, q3, q4, _⟩ := (L1.out.on A2).cells; exact ⟨q0, q1, q2, q3, q4⟩) (fun _ => ?_)
  clear hK K
  refine rdy 13 (fun K hK => ?_)
  go_simp
  have A3 := (Below.refl w1.heap.size w1).alloc (Nat.le_refl _) (Obj.cells #[.int .i64 k, .int .i64 o, .int .i64 n, .string s, .slice va ns.length vc, .slice none 0 0, .int .i64 0] 25)
  refine hK.out _ _ (by obtain ⟨q0, q1, q2, q3, q4, _⟩ := (L1.out.on A3).cells; exact ⟨q0, q1, q2, q3, q4⟩) (fun _ => ?_)
  clear hK K A2
  refine wpAnyH_done (by kernel_rfl) ?_ _
  have HGO0 := blk_new w1 25 #[.int .i64 k, .int .i64 o, .int .i64 n, .string s, .slice va ns.length vc, .slice none 0 0, .int .i64 0]
  have hzw : (w1.alloc (Obj.cells #[.int .i64 k, .int .i64 o, .int .i64 n, .string s, .slice va ns.length vc, .slice none 0 0, .int .i64 0] 25)).heap.size = w1.heap.size + 1 := by simp
  have HSS0 : StrsS (fun b => w0.heap.size ≤ b ∧ b < w1.heap.size + 1 ∧ b ≠ w1.heap.size) (.slice va ns.length vc) ns (w1.alloc (Obj.cells #[.int .i64 k, .int .i64 o, .int .i64 n, .string s, .slice va ns.length vc, .slice none 0 0, .int .i64 0] 25)) := strsS_keep (fun b hb => ⟨⟨hb.1, by omega, by omega⟩, A3.block b hb.2⟩) SS1.out
  have hlo1 : w0.heap.size ≤ w1.heap.size := B1.out.size
  obtain ⟨go, hgo⟩ : ∃ g, g = w1.heap.size := ⟨_, rfl⟩
  rw [← hgo] at HGO0 HSS0 hlo1 hzw ⊢
  have HAA := hid (below_on B1.out A3)
  generalize w1.alloc (Obj.cells #[.int .i64 k, .int .i64 o, .int .i64 n, .string s, .slice va ns.length vc, .slice none 0 0, .int .i64 0] 25) = W1 at *
  have HGO := hid HGO0
  have HSS := hid HSS0
  have HGZ := hid (show w0.heap.size ≤ go ∧ W1.heap.size = go + 1 ∨ w0.heap.size ≤ go ∧ go < W1.heap.size from .inl ⟨hlo1, hzw⟩)
  have HGZ2 := hid (show w0.heap.size ≤ go ∧ go < W1.heap.size from ⟨hlo1, by omega⟩)
  have HSS2 := hid (strsS_keep (ok' := fun b => w0.heap.size ≤ b ∧ b < W1.heap.size ∧ b ≠ go) (c := W1) (fun b hb => ⟨⟨hb.1, by omega, hb.2.2⟩, rfl⟩) HSS.out)
  clear HGO0 HSS0 HSS HGZ A3 B1 L1 SS1 hlo1 hzw hgo
  rotate_left 1
  have HKK := hid hK
  clear hK
  go_simp
  have A4 := (Below.refl w0.heap.size w0).alloc (Nat.le_refl _) (Obj.cells #[.int .i64 0, .int .i64 0, .int .i64 0, .string ⟨#[]⟩, .slice none 0 0, .slice none 0 0, .int .i64 0] 25)
  have HB4 := hid (show Blk w0.heap.size 25 #[.int .i64 0, .int .i64 0, .int .i64 0, .string ⟨#[]⟩, .slice none 0 0, .slice none 0 0, .int .i64 0] (w0.alloc (Obj.cells #[.int .i64 0, .int .i64 0, .int .i64 0, .string ⟨#[]⟩, .slice none 0 0, .slice none 0 0, .int .i64 0] 25)).drew from blk_new w0 25 #[.int .i64 0, .int .i64 0, .int .i64 0, .string ⟨#[]⟩, .slice none 0 0, .slice none 0 0, .int .i64 0])
  have HA4 := hid A4.drew
  have HL4 := hid (HL0.out.on HA4.out)
  refine HKK.out.out _ _ (by obtain ⟨q0, q1, q2, q3, q4, _⟩ := HL4.out.cells; exact ⟨q0, q1, q2, q3, q4⟩) (fun _ => ?_)
  clear HKK K A4
  refine rdy 10 (fun K hK => ?_)
  have HKK := hid hK
  clear hK
  go_simp
  refine (clone_calls (w0.alloc (Obj.cells #[.int .i64 0, .int .i64 0, .int .i64 0, .string ⟨#[]⟩, .slice none 0 0, .slice none 0 0, .int .i64 0] 25)).drew (strsIn_on HS0.out (HA4.out.mono (by have := HZ0.out; omega))) (by have := HZ0.out; have := HA4.out.size; omega) (by omega)).mono ?_
  rintro e1 w1 ⟨v1, rfl, ss1, b1⟩
  obtain ⟨va, vc, rfl⟩ := strsS_shape ss1
  have hzA : (w0.alloc (Obj.cells #[.int .i64 0, .int .i64 0, .int .i64 0, .string ⟨#[]⟩, .slice none 0 0, .slice none 0 0, .int .i64 0] 25)).drew.heap.size = w0.heap.size + 1 := by simp
  have B1 := hid (below_on HA4.out b1)
  have L1 := hid (HL0.out.on B1.out)
  have G1 := hid (blk_on HB4.out b1)
  have SS1 := hid ss1
  have hz1 : w0.heap.size + 1 ≤ w1.heap.size := by have := b1.size; omega
  refine HKK.out.out _ _ (by obtain ⟨q0, q1, q2, q3, q4, _⟩ := L1.out.cells; exact ⟨q0, q1, q2, q3, q4⟩) (fun _ => ?_)
  clear HKK K b1 ss1
  refine tkk 11 ?_
  have za0 : w1.cell? ⟨w0.heap.size, 0, none⟩ = some (.int .i64 0) := by rw [blk_cell G1.out]; rfl
  have za1 : w1.cell? ⟨w0.heap.size, 1, none⟩ = some (.int .i64 0) := by rw [blk_cell G1.out]; rfl
  have za2 : w1.cell? ⟨w0.heap.size, 2, none⟩ = some (.int .i64 0) := by rw [blk_cell G1.out]; rfl
  have za3 : w1.cell? ⟨w0.heap.size, 3, none⟩ = some (.string ⟨#[]⟩) := by rw [blk_cell G1.out]; rfl
  have za4 : w1.cell? ⟨w0.heap.size, 4, none⟩ = some (.slice none 0 0) := by rw [blk_cell G1.out]; rfl
  have za5 : w1.cell? ⟨w0.heap.size, 5, none⟩ = some (.slice none 0 0) := by rw [blk_cell G1.out]; rfl
  have za6 : w1.cell? ⟨w0.heap.size, 6, none⟩ = some (.int .i64 0) := by rw [blk_cell G1.out]; rfl
  have fa0 : w1.frozen? ⟨w0.heap.size, 0, none⟩ = false := blk_free G1.out 0
  have fa1 : w1.frozen? ⟨w0.heap.size, 1, none⟩ = false := blk_free G1.out 1
  have fa2 : w1.frozen? ⟨w0.heap.size, 2, none⟩ = false := blk_free G1.out 2
  have fa3 : w1.frozen? ⟨w0.heap.size, 3, none⟩ = false := blk_free G1.out 3
  have fa4 : w1.frozen? ⟨w0.heap.size, 4, none⟩ = false := blk_free G1.out 4
  have fa5 : w1.frozen? ⟨w0.heap.size, 5, none⟩ = false := blk_free G1.out 5
  have fa6 : w1.frozen? ⟨w0.heap.size, 6, none⟩ = false := blk_free G1.out 6
  refine rdy 13 (fun K hK => ?_)
  go_simp
  have KS := (((((((Keep.set (S := fun x => x = w0.heap.size) rfl (w1) 0 (.int .i64 k)).trans (Keep.set (S := fun x => x = w0.heap.size) rfl ((w1.setCell ⟨w0.heap.size, 0, none⟩ (.int .i64 k))) 1 (.int .i64 o)) (fun _ _ h => h)).trans (Keep.set (S := fun x => x = w0.heap.size) rfl (((w1.setCell ⟨w0.heap.size, 0, none⟩ (.int .i64 k)).setCell ⟨w0.heap.size, 1, none⟩ (.int .i64 o))) 2 (.int .i64 n)) (fun _ _ h => h)).trans (Keep.set (S := fun x => x = w0.heap.size) rfl ((((w1.setCell ⟨w0.heap.size, 0, none⟩ (.int .i64 k)).setCell ⟨w0.heap.size, 1, none⟩ (.int .i64 o)).setCell ⟨w0.heap.size, 2, none⟩ (.int .i64 n))) 3 (.string s)) (fun _ _ h => h)).trans (Keep.set (S := fun x => x = w0.heap.size) rfl (((((w1.setCell ⟨w0.heap.size, 0, none⟩ (.int .i64 k)).setCell ⟨w0.heap.size, 1, none⟩ (.int .i64 o)).setCell ⟨w0.heap.size, 2, none⟩ (.int .i64 n)).setCell ⟨w0.heap.size, 3, none⟩ (.string s))) 4 (.slice va ns.length vc)) (fun _ _ h => h)).trans (Keep.set (S := fun x => x = w0.heap.size) rfl ((((((w1.setCell ⟨w0.heap.size, 0, none⟩ (.int .i64 k)).setCell ⟨w0.heap.size, 1, none⟩ (.int .i64 o)).setCell ⟨w0.heap.size, 2, none⟩ (.int .i64 n)).setCell ⟨w0.heap.size, 3, none⟩ (.string s)).setCell ⟨w0.heap.size, 4, none⟩ (.slice va ns.length vc))) 5 (.slice none 0 0)) (fun _ _ h => h)).trans (Keep.set (S := fun x => x = w0.heap.size) rfl (((((((w1.setCell ⟨w0.heap.size, 0, none⟩ (.int .i64 k)).setCell ⟨w0.heap.size, 1, none⟩ (.int .i64 o)).setCell ⟨w0.heap.size, 2, none⟩ (.int .i64 n)).setCell ⟨w0.heap.size, 3, none⟩ (.string s)).setCell ⟨w0.heap.size, 4, none⟩ (.slice va ns.length vc)).setCell ⟨w0.heap.size, 5, none⟩ (.slice none 0 0))) 6 (.int .i64 0)) (fun _ _ h => h))
  have G7 := (blk_set (blk_set (blk_set (blk_set (blk_set (blk_set (blk_set G1.out 0 (.int .i64 k)) 1 (.int .i64 o)) 2 (.int .i64 n)) 3 (.string s)) 4 (.slice va ns.length vc)) 5 (.slice none 0 0)) 6 (.int .i64 0))
  have L7 := L1.out.keep KS (fun b h1 h2 => by have := HZ0.out; omega)
  refine hK.out _ _ (by obtain ⟨q0, q1, q2, q3, q4, _⟩ := L7.cells; exact ⟨q0, q1, q2, q3, q4⟩) (fun _ => ?_)
  clear hK K
  refine wpAnyH_done (by kernel_rfl) ?_ _
  have P7 := put7 G1.out (.int .i64 k) (.int .i64 o) (.int .i64 n) (.string s) (.slice va ns.length vc) (.slice none 0 0) (.int .i64 0)
  have HSS0 : StrsS (fun b => w0.heap.size ≤ b ∧ b < w1.heap.size ∧ b ≠ w0.heap.size) (.slice va ns.length vc) ns ((((((((w1.setCell ⟨w0.heap.size, 0, none⟩ (.int .i64 k)).setCell ⟨w0.heap.size, 1, none⟩ (.int .i64 o)).setCell ⟨w0.heap.size, 2, none⟩ (.int .i64 n)).setCell ⟨w0.heap.size, 3, none⟩ (.string s)).setCell ⟨w0.heap.size, 4, none⟩ (.slice va ns.length vc)).setCell ⟨w0.heap.size, 5, none⟩ (.slice none 0 0)).setCell ⟨w0.heap.size, 6, none⟩ (.int .i64 0))) := strsS_keep (fun b hb => ⟨⟨by omega, hb.2, by omega⟩, P7.2.block b hb.2 (by omega)⟩) SS1.out
  have HAA := hid (show Below w0.heap.size w0 ((((((((w1.setCell ⟨w0.heap.size, 0, none⟩ (.int .i64 k)).setCell ⟨w0.heap.size, 1, none⟩ (.int .i64 o)).setCell ⟨w0.heap.size, 2, none⟩ (.int .i64 n)).setCell ⟨w0.heap.size, 3, none⟩ (.string s)).setCell ⟨w0.heap.size, 4, none⟩ (.slice va ns.length vc)).setCell ⟨w0.heap.size, 5, none⟩ (.slice none 0 0)).setCell ⟨w0.heap.size, 6, none⟩ (.int .i64 0))) from ⟨P7.2.os.trans B1.out.os, P7.2.tape.trans B1.out.tape, P7.2.output.trans B1.out.output, Nat.le_trans B1.out.size P7.2.size, fun b hb => (P7.2.block b (by omega) (by omega)).trans (B1.out.block b hb)⟩)
  clear za0 za1 za2 za3 za4 za5 za6 fa0 fa1 fa2 fa3 fa4 fa5 fa6 KS L7 G7
  generalize (((((((w1.setCell ⟨w0.heap.size, 0, none⟩ (.int .i64 k)).setCell ⟨w0.heap.size, 1, none⟩ (.int .i64 o)).setCell ⟨w0.heap.size, 2, none⟩ (.int .i64 n)).setCell ⟨w0.heap.size, 3, none⟩ (.string s)).setCell ⟨w0.heap.size, 4, none⟩ (.slice va ns.length vc)).setCell ⟨w0.heap.size, 5, none⟩ (.slice none 0 0)).setCell ⟨w0.heap.size, 6, none⟩ (.int .i64 0)) = W1 at *
  have hzw : w1.heap.size ≤ W1.heap.size := P7.2.size
  have HSS1 : StrsS (fun b => w0.heap.size ≤ b ∧ b < W1.heap.size ∧ b ≠ w0.heap.size) (.slice va ns.length vc) ns W1 := strsS_keep (fun b hb => ⟨⟨hb.1, by omega, hb.2.2⟩, rfl⟩) HSS0
  have HGO0 := P7.1
  have hgz : w0.heap.size ≤ w0.heap.size ∧ w0.heap.size < W1.heap.size := ⟨Nat.le_refl _, by omega⟩
  have hex : ∃ g, Hid (Blk g 25 #[.int .i64 k, .int .i64 o, .int .i64 n, .string s, .slice va ns.length vc, .slice none 0 0, .int .i64 0] W1) ∧ Hid (StrsS (fun b => w0.heap.size ≤ b ∧ b < W1.heap.size ∧ b ≠ g) (.slice va ns.length vc) ns W1) ∧ Hid (w0.heap.size ≤ g ∧ g < W1.heap.size) ∧ g = w0.heap.size := ⟨_, hid HGO0, hid HSS1, hid hgz, rfl⟩
  clear HGO0 HSS1 hgz HSS0 P7 hzw B1 L1 G1 SS1 hz1 hzA HA4 HB4 HL4
  obtain ⟨go, HGO, HSS2, HGZ2, hgo⟩ := hex
  rw [← hgo]
  clear hgo
  rotate_left 1
  all_goals
    have HL1 := hid (HL0.out.on HAA.out)
    have HW1 := hid (below_on HA3.out HAA.out)
    obtain ⟨q0, q1, q2, q3, q4, q5, q6⟩ := HL1.out.cells
    have hwl : w.heap.size < W1.heap.size := by have := HAA.out.size; have := HZ0.out; omega
    have hz0 := HZ0.out
    have AF := (Below.refl W1.heap.size W1).alloc (Nat.le_refl _) (Obj.cells #[.int .i64 0, .int .i64 0] 53)
    have hzF : (W1.alloc (Obj.cells #[.int .i64 0, .int .i64 0] 53)).heap.size = W1.heap.size + 1 := by simp
    have HLF := hid (HL1.out.on AF)
    have HGOF := hid (blk_on HGO.out AF)
    have HWF := hid (below_on HW1.out AF)
    have HSF := hid (strsS_keep (ok' := fun b => w0.heap.size ≤ b ∧ b < (W1.alloc (Obj.cells #[.int .i64 0, .int .i64 0] 53)).heap.size ∧ b ≠ go ∧ b ≠ W1.heap.size) (c := W1.alloc (Obj.cells #[.int .i64 0, .int .i64 0] 53)) (fun b hb => ⟨⟨hb.1, by omega, hb.2.2, by omega⟩, AF.block b hb.2.1⟩) HSS2.out)
    have HGFF := hid (blk_new W1 53 #[.int .i64 0, .int .i64 0])
    have HZF := hid (show w0.heap.size ≤ go ∧ go < (W1.alloc (Obj.cells #[.int .i64 0, .int .i64 0] 53)).heap.size ∧ w0.heap.size ≤ W1.heap.size ∧ W1.heap.size < (W1.alloc (Obj.cells #[.int .i64 0, .int .i64 0] 53)).heap.size ∧ go ≠ W1.heap.size from ⟨HGZ2.out.1, by have := HGZ2.out.2; omega, HAA.out.size, by omega, by have := HGZ2.out.2; omega⟩)
    clear AF
    by_cases h8 : k = 8
    · subst h8
      go_wp2_with fail
      generalize W1.alloc (Obj.cells #[.int .i64 0, .int .i64 0] 53) = wF at *
      generalize W1.heap.size = gf at *
      clear q0 q1 q2 q3 q4 q5 q6 hwl HGO HSS2 HW1 HL1
      have HC := HFun.out (by trivial) B r gm lv fv gl lo fs ok _ _ wF (hid (HRs.out.on HWF.out)) (hid (ndIn_on (HWF.out.mono hB) _ _ _ HN.out)) (by have := HWF.out.size; omega) hsm hc h32
      unfold ndV at HC
      simp only [Nd.kind, Nd.op, Nd.num, Nd.str, Nd.pl, Nd.names, Nd.kids] at HC
      refine HC.mono ?_
      clear HC
      intro e3 w3 h3
      generalize hR3 : resN gl (.mk 8 o n s ns ks p) lo fs = R3 at h3
      have HP := hid hR3
      cases R3 with
      | bad p3 x3 =>
        unfold FunOut bareV fltP at h3
        simp only at h3
        obtain ⟨⟨a3, b3, rfl⟩, hbd⟩ := h3
        have HBD := hid hbd
        have K3 := hbd.keep
        clear hbd
        have he3 : x3 ≠ 0 := resN_bad _ hR3
        have hne1 : go ≠ gf := HZF.out.2.2.2.2
        have hne2 : gf ≠ go := Ne.symm hne1
        have hne3 : gf ≠ w.heap.size + 1 := by have := HZF.out; omega
        have hne4 : gf ≠ w.heap.size + 1 + 1 := by have := HZF.out; omega
        have hne5 : w.heap.size + 1 ≠ gf := Ne.symm hne3
        have hne6 : w.heap.size + 1 + 1 ≠ gf := Ne.symm hne4
        have L3 := hid (HLF.out.keep K3 (fun b h _ => HNR.out b h))
        have GO3 := hid (blk_keep HGOF.out K3 (HNR.out _ (by have := HZF.out; omega)))
        have GF3 := hid (blk_keep HGFF.out K3 (HNR.out _ (by have := HZF.out; omega)))
        have co0 : w3.cell? ⟨go, 0, none⟩ = some (.int .i64 8) := by rw [blk_cell GO3.out]; rfl
        have co1 : w3.cell? ⟨go, 1, none⟩ = some (.int .i64 o) := by rw [blk_cell GO3.out]; rfl
        have co2 : w3.cell? ⟨go, 2, none⟩ = some (.int .i64 n) := by rw [blk_cell GO3.out]; rfl
        have co3 : w3.cell? ⟨go, 3, none⟩ = some (.string s) := by rw [blk_cell GO3.out]; rfl
        have co4 : w3.cell? ⟨go, 4, none⟩ = some (.slice va ns.length vc) := by rw [blk_cell GO3.out]; rfl
        have co5 : w3.cell? ⟨go, 5, none⟩ = some (.slice none 0 0) := by rw [blk_cell GO3.out]; rfl
        have co6 : w3.cell? ⟨go, 6, none⟩ = some (.int .i64 0) := by rw [blk_cell GO3.out]; rfl
        have fo0 : w3.frozen? ⟨go, 0, none⟩ = false := blk_free GO3.out 0
        have fo1 : w3.frozen? ⟨go, 1, none⟩ = false := blk_free GO3.out 1
        have fo2 : w3.frozen? ⟨go, 2, none⟩ = false := blk_free GO3.out 2
        have fo3 : w3.frozen? ⟨go, 3, none⟩ = false := blk_free GO3.out 3
        have fo4 : w3.frozen? ⟨go, 4, none⟩ = false := blk_free GO3.out 4
        have fo5 : w3.frozen? ⟨go, 5, none⟩ = false := blk_free GO3.out 5
        have fo6 : w3.frozen? ⟨go, 6, none⟩ = false := blk_free GO3.out 6
        have cf0 : w3.cell? ⟨gf, 0, none⟩ = some (.int .i64 0) := by rw [blk_cell GF3.out]; rfl
        have cf1 : w3.cell? ⟨gf, 1, none⟩ = some (.int .i64 0) := by rw [blk_cell GF3.out]; rfl
        have ff0 : w3.frozen? ⟨gf, 0, none⟩ = false := blk_free GF3.out 0
        have ff1 : w3.frozen? ⟨gf, 1, none⟩ = false := blk_free GF3.out 1
        have HK3 := hid K3
        clear K3 hR3
        go_wp2_with fail
        have hS5 := put72 (w := w3) HZF.out.2.2.2.2 GO3.out GF3.out (.int .i64 a3) (.int .i64 0) (.int .i64 b3) (.string ⟨#[]⟩) (.slice none 0 0) (.slice none 0 0) (.int .i64 0) (.int .i64 p3) (.int .i64 x3)
        clear co0 co1 co2 co3 co4 co5 co6 fo0 fo1 fo2 fo3 fo4 fo5 fo6 cf0 cf1 ff0 ff1
        generalize (((((((((w3.setCell ⟨go, 0, none⟩ (.int .i64 a3)).setCell ⟨go, 1, none⟩ (.int .i64 0)).setCell ⟨go, 2, none⟩ (.int .i64 b3)).setCell ⟨go, 3, none⟩ (.string ⟨#[]⟩)).setCell ⟨go, 4, none⟩ (.slice none 0 0)).setCell ⟨go, 5, none⟩ (.slice none 0 0)).setCell ⟨go, 6, none⟩ (.int .i64 0)).setCell ⟨gf, 0, none⟩ (.int .i64 p3)).setCell ⟨gf, 1, none⟩ (.int .i64 x3)) = w5 at *
        have GO5 := hid hS5.1
        have GF5 := hid hS5.2.1
        have KS5 := hid hS5.2.2
        have L5 := hid (L3.out.keep KS5.out (fun b h1 h2 => by have := HZF.out; omega))
        clear hS5 L3
        have K5 := hid ((Bad.before HWF.out HBD.out).put2 hrw KS5.out GO3.out GF3.out (by have := HZF.out; omega) (by have := HZF.out; omega))
        clear GO3 GF3 HBD
        refine (found_calls p3 x3 w5).mono ?_
        rintro e9 w9 ⟨rfl, b9⟩
        have hb9 : (x3 != 0) = true := by rw [bne_iff_ne]; exact he3
        have L9 := hid (L5.out.on b9)
        have GF9 := hid (blk_on GF5.out b9)
        have K9 := hid (K5.out.on b9)
        have t0 : w9.cell? ⟨gf, 0, none⟩ = some (.int .i64 p3) := by rw [blk_cell GF9.out]; rfl
        have t1 : w9.cell? ⟨gf, 1, none⟩ = some (.int .i64 x3) := by rw [blk_cell GF9.out]; rfl
        have za0 : w9.cell? ⟨w.heap.size + 1, 0, none⟩ = some (.int .i64 0) := by rw [blk_cell L9.out.out]; rfl
        have za1 : w9.cell? ⟨w.heap.size + 1, 1, none⟩ = some (.int .i64 0) := by rw [blk_cell L9.out.out]; rfl
        have za2 : w9.cell? ⟨w.heap.size + 1, 2, none⟩ = some (.int .i64 0) := by rw [blk_cell L9.out.out]; rfl
        have za3 : w9.cell? ⟨w.heap.size + 1, 3, none⟩ = some (.string ⟨#[]⟩) := by rw [blk_cell L9.out.out]; rfl
        have za4 : w9.cell? ⟨w.heap.size + 1, 4, none⟩ = some (.slice none 0 0) := by rw [blk_cell L9.out.out]; rfl
        have za5 : w9.cell? ⟨w.heap.size + 1, 5, none⟩ = some (.slice none 0 0) := by rw [blk_cell L9.out.out]; rfl
        have za6 : w9.cell? ⟨w.heap.size + 1, 6, none⟩ = some (.int .i64 0) := by rw [blk_cell L9.out.out]; rfl
        have fa0 : w9.frozen? ⟨w.heap.size + 1, 0, none⟩ = false := blk_free L9.out.out 0
        have fa1 : w9.frozen? ⟨w.heap.size + 1, 1, none⟩ = false := blk_free L9.out.out 1
        have fa2 : w9.frozen? ⟨w.heap.size + 1, 2, none⟩ = false := blk_free L9.out.out 2
        have fa3 : w9.frozen? ⟨w.heap.size + 1, 3, none⟩ = false := blk_free L9.out.out 3
        have fa4 : w9.frozen? ⟨w.heap.size + 1, 4, none⟩ = false := blk_free L9.out.out 4
        have fa5 : w9.frozen? ⟨w.heap.size + 1, 5, none⟩ = false := blk_free L9.out.out 5
        have fa6 : w9.frozen? ⟨w.heap.size + 1, 6, none⟩ = false := blk_free L9.out.out 6
        have zb0 : w9.cell? ⟨w.heap.size + 1 + 1, 0, none⟩ = some (.int .i64 0) := by rw [blk_cell L9.out.flt]; rfl
        have zb1 : w9.cell? ⟨w.heap.size + 1 + 1, 1, none⟩ = some (.int .i64 0) := by rw [blk_cell L9.out.flt]; rfl
        have fb0 : w9.frozen? ⟨w.heap.size + 1 + 1, 0, none⟩ = false := blk_free L9.out.flt 0
        have fb1 : w9.frozen? ⟨w.heap.size + 1 + 1, 1, none⟩ = false := blk_free L9.out.flt 1
        clear b9
        go_wp2_with fail
        go_region
        all_goals
          go_wp2_with fail
          refine bodyPost_ret (ret_n2 (g := w.heap.size + 1) (g' := w.heap.size + 1 + 1) (v0 := (.int .i64 0)) (v1 := (.int .i64 0)) (v2 := (.int .i64 0)) (v3 := (.string ⟨#[]⟩)) (v4 := (.slice none 0 0)) (v5 := (.slice none 0 0)) (v6 := (.int .i64 0)) (x := (.int .i64 p3)) (y := (.int .i64 x3)) rfl rfl rfl ⟨by go_simp, by go_simp, by go_simp, by go_simp, by go_simp, by go_simp, by go_simp⟩ ⟨by go_simp, by go_simp⟩) rfl ?_
          rw [HP.out]
          refine ⟨rfl, ?_⟩
          have P1 := put72 (w := w9) (g := w.heap.size + 1) (f := w.heap.size + 1 + 1) (by omega) L9.out.out L9.out.flt (.int .i64 0) (.int .i64 0) (.int .i64 0) (.string ⟨#[]⟩) (.slice none 0 0) (.slice none 0 0) (.int .i64 0) (.int .i64 p3) (.int .i64 x3)
          exact (K9.out.put2 hrw P1.2.2 L9.out.out L9.out.flt (by omega) (by omega)).on (Below.refl _ _).drew
      | ok q3 =>
        obtain ⟨t3, fs3⟩ := q3
        unfold FunOut fltP at h3
        simp only at h3
        obtain ⟨nv3, kv3, fv3, okR3, ok3, rfl, HN3, W3⟩ := h3
        have HN3 := hid HN3
        have HW3 := hid W3
        have K3 := W3.keep
        obtain ⟨a1, c1, a2, c2, rfl, rfl⟩ := ndS_shape HN3.out
        obtain ⟨k3, o3, n3, s3, ns3, ks3, p3⟩ := t3
        unfold ndV
        simp only [Nd.kind, Nd.op, Nd.num, Nd.str, Nd.pl, Nd.names, Nd.kids]
        have hne1 : go ≠ gf := HZF.out.2.2.2.2
        have hne2 : gf ≠ go := Ne.symm hne1
        have hne3 : gf ≠ w.heap.size + 1 := by have := HZF.out; omega
        have hne4 : gf ≠ w.heap.size + 1 + 1 := by have := HZF.out; omega
        have hne5 : w.heap.size + 1 ≠ gf := Ne.symm hne3
        have hne6 : w.heap.size + 1 + 1 ≠ gf := Ne.symm hne4
        have L3 := hid (HLF.out.keep K3 (fun b h _ => HNR.out b h))
        have GO3 := hid (blk_keep HGOF.out K3 (HNR.out _ (by have := HZF.out; omega)))
        have GF3 := hid (blk_keep HGFF.out K3 (HNR.out _ (by have := HZF.out; omega)))
        have co0 : w3.cell? ⟨go, 0, none⟩ = some (.int .i64 8) := by rw [blk_cell GO3.out]; rfl
        have co1 : w3.cell? ⟨go, 1, none⟩ = some (.int .i64 o) := by rw [blk_cell GO3.out]; rfl
        have co2 : w3.cell? ⟨go, 2, none⟩ = some (.int .i64 n) := by rw [blk_cell GO3.out]; rfl
        have co3 : w3.cell? ⟨go, 3, none⟩ = some (.string s) := by rw [blk_cell GO3.out]; rfl
        have co4 : w3.cell? ⟨go, 4, none⟩ = some (.slice va ns.length vc) := by rw [blk_cell GO3.out]; rfl
        have co5 : w3.cell? ⟨go, 5, none⟩ = some (.slice none 0 0) := by rw [blk_cell GO3.out]; rfl
        have co6 : w3.cell? ⟨go, 6, none⟩ = some (.int .i64 0) := by rw [blk_cell GO3.out]; rfl
        have fo0 : w3.frozen? ⟨go, 0, none⟩ = false := blk_free GO3.out 0
        have fo1 : w3.frozen? ⟨go, 1, none⟩ = false := blk_free GO3.out 1
        have fo2 : w3.frozen? ⟨go, 2, none⟩ = false := blk_free GO3.out 2
        have fo3 : w3.frozen? ⟨go, 3, none⟩ = false := blk_free GO3.out 3
        have fo4 : w3.frozen? ⟨go, 4, none⟩ = false := blk_free GO3.out 4
        have fo5 : w3.frozen? ⟨go, 5, none⟩ = false := blk_free GO3.out 5
        have fo6 : w3.frozen? ⟨go, 6, none⟩ = false := blk_free GO3.out 6
        have cf0 : w3.cell? ⟨gf, 0, none⟩ = some (.int .i64 0) := by rw [blk_cell GF3.out]; rfl
        have cf1 : w3.cell? ⟨gf, 1, none⟩ = some (.int .i64 0) := by rw [blk_cell GF3.out]; rfl
        have ff0 : w3.frozen? ⟨gf, 0, none⟩ = false := blk_free GF3.out 0
        have ff1 : w3.frozen? ⟨gf, 1, none⟩ = false := blk_free GF3.out 1
        clear K3 W3 hR3
        go_wp2_with fail
        have hS5 := put72 (w := w3) HZF.out.2.2.2.2 GO3.out GF3.out (.int .i64 k3) (.int .i64 o3) (.int .i64 n3) (.string s3) (.slice a1 ns3.length c1) (.slice a2 ks3.length c2) (.int .i64 p3) (.int .i64 0) (.int .i64 0)
        clear co0 co1 co2 co3 co4 co5 co6 fo0 fo1 fo2 fo3 fo4 fo5 fo6 cf0 cf1 ff0 ff1
        generalize (((((((((w3.setCell ⟨go, 0, none⟩ (.int .i64 k3)).setCell ⟨go, 1, none⟩ (.int .i64 o3)).setCell ⟨go, 2, none⟩ (.int .i64 n3)).setCell ⟨go, 3, none⟩ (.string s3)).setCell ⟨go, 4, none⟩ (.slice a1 ns3.length c1)).setCell ⟨go, 5, none⟩ (.slice a2 ks3.length c2)).setCell ⟨go, 6, none⟩ (.int .i64 p3)).setCell ⟨gf, 0, none⟩ (.int .i64 0)).setCell ⟨gf, 1, none⟩ (.int .i64 0)) = w5 at *
        have GO5 := hid hS5.1
        have GF5 := hid hS5.2.1
        have KS5 := hid hS5.2.2
        have L5 := hid (L3.out.keep KS5.out (fun b h1 h2 => by have := HZF.out; omega))
        clear hS5 L3
        refine (found_calls 0 0 w5).mono ?_
        rintro e9 w9 ⟨rfl, b9⟩
        have L9 := hid (L5.out.on b9)
        have GO9 := hid (blk_on GO5.out b9)
        have B9 := hid b9
        have co0 : w9.cell? ⟨go, 0, none⟩ = some (.int .i64 k3) := by rw [blk_cell GO9.out]; rfl
        have co1 : w9.cell? ⟨go, 1, none⟩ = some (.int .i64 o3) := by rw [blk_cell GO9.out]; rfl
        have co2 : w9.cell? ⟨go, 2, none⟩ = some (.int .i64 n3) := by rw [blk_cell GO9.out]; rfl
        have co3 : w9.cell? ⟨go, 3, none⟩ = some (.string s3) := by rw [blk_cell GO9.out]; rfl
        have co4 : w9.cell? ⟨go, 4, none⟩ = some (.slice a1 ns3.length c1) := by rw [blk_cell GO9.out]; rfl
        have co5 : w9.cell? ⟨go, 5, none⟩ = some (.slice a2 ks3.length c2) := by rw [blk_cell GO9.out]; rfl
        have co6 : w9.cell? ⟨go, 6, none⟩ = some (.int .i64 p3) := by rw [blk_cell GO9.out]; rfl
        have za0 : w9.cell? ⟨w.heap.size + 1, 0, none⟩ = some (.int .i64 0) := by rw [blk_cell L9.out.out]; rfl
        have za1 : w9.cell? ⟨w.heap.size + 1, 1, none⟩ = some (.int .i64 0) := by rw [blk_cell L9.out.out]; rfl
        have za2 : w9.cell? ⟨w.heap.size + 1, 2, none⟩ = some (.int .i64 0) := by rw [blk_cell L9.out.out]; rfl
        have za3 : w9.cell? ⟨w.heap.size + 1, 3, none⟩ = some (.string ⟨#[]⟩) := by rw [blk_cell L9.out.out]; rfl
        have za4 : w9.cell? ⟨w.heap.size + 1, 4, none⟩ = some (.slice none 0 0) := by rw [blk_cell L9.out.out]; rfl
        have za5 : w9.cell? ⟨w.heap.size + 1, 5, none⟩ = some (.slice none 0 0) := by rw [blk_cell L9.out.out]; rfl
        have za6 : w9.cell? ⟨w.heap.size + 1, 6, none⟩ = some (.int .i64 0) := by rw [blk_cell L9.out.out]; rfl
        have fa0 : w9.frozen? ⟨w.heap.size + 1, 0, none⟩ = false := blk_free L9.out.out 0
        have fa1 : w9.frozen? ⟨w.heap.size + 1, 1, none⟩ = false := blk_free L9.out.out 1
        have fa2 : w9.frozen? ⟨w.heap.size + 1, 2, none⟩ = false := blk_free L9.out.out 2
        have fa3 : w9.frozen? ⟨w.heap.size + 1, 3, none⟩ = false := blk_free L9.out.out 3
        have fa4 : w9.frozen? ⟨w.heap.size + 1, 4, none⟩ = false := blk_free L9.out.out 4
        have fa5 : w9.frozen? ⟨w.heap.size + 1, 5, none⟩ = false := blk_free L9.out.out 5
        have fa6 : w9.frozen? ⟨w.heap.size + 1, 6, none⟩ = false := blk_free L9.out.out 6
        have zb0 : w9.cell? ⟨w.heap.size + 1 + 1, 0, none⟩ = some (.int .i64 0) := by rw [blk_cell L9.out.flt]; rfl
        have zb1 : w9.cell? ⟨w.heap.size + 1 + 1, 1, none⟩ = some (.int .i64 0) := by rw [blk_cell L9.out.flt]; rfl
        have fb0 : w9.frozen? ⟨w.heap.size + 1 + 1, 0, none⟩ = false := blk_free L9.out.flt 0
        have fb1 : w9.frozen? ⟨w.heap.size + 1 + 1, 1, none⟩ = false := blk_free L9.out.flt 1
        clear b9
        go_wp2_with fail
        refine bodyPost_ret (ret_n2 (g := w.heap.size + 1) (g' := w.heap.size + 1 + 1) (v0 := (.int .i64 k3)) (v1 := (.int .i64 o3)) (v2 := (.int .i64 n3)) (v3 := (.string s3)) (v4 := (.slice a1 ns3.length c1)) (v5 := (.slice a2 ks3.length c2)) (v6 := (.int .i64 p3)) (x := (.int .i64 0)) (y := (.int .i64 0)) rfl rfl rfl ⟨by go_simp, by go_simp, by go_simp, by go_simp, by go_simp, by go_simp, by go_simp⟩ ⟨by go_simp, by go_simp⟩) rfl ?_
        rw [HP.out]
        have PK := (put72 (w := w9) (g := w.heap.size + 1) (f := w.heap.size + 1 + 1) (by omega) L9.out.out L9.out.flt (.int .i64 k3) (.int .i64 o3) (.int .i64 n3) (.string s3) (.slice a1 ns3.length c1) (.slice a2 ks3.length c2) (.int .i64 p3) (.int .i64 0) (.int .i64 0)).2.2
        have KT := ((KS5.out.mono (T := fun b => b = go ∨ b = gf ∨ b = w.heap.size + 1 ∨ b = w.heap.size + 1 + 1) (fun i _ e => by rcases e with e | e; exact .inl e; exact .inr (.inl e))).trans (Keep.of (S := fun b => b = go ∨ b = gf ∨ b = w.heap.size + 1 ∨ b = w.heap.size + 1 + 1) B9.out) (fun _ _ h => h)).trans PK (fun i _ e => .inr (.inr e))
        have hwF := HWF.out.size
        have hZZ := HZF.out
        exact ⟨_, _, fv3, okR3, ok3, rfl, ndS_keep (fun b hb => ⟨hb, KT.block b (HW3.out.new b hb).2.1 (fun (e : b = go ∨ b = gf ∨ b = w.heap.size + 1 ∨ b = w.heap.size + 1 + 1) => by have := (HW3.out.new b hb).1; omega)⟩) _ _ _ HN3.out, Went.slot HRs.out HWF.out HW3.out KT (fun b (e : b = go ∨ b = gf ∨ b = w.heap.size + 1 ∨ b = w.heap.size + 1 + 1) => by omega) (fun b hb => ⟨by have := (HW3.out.new b hb).1; omega, (HW3.out.new b hb).2⟩)⟩
    · by_cases h5 : k = 5
      · subst h5
        go_wp2_with fail
        generalize W1.alloc (Obj.cells #[.int .i64 0, .int .i64 0] 53) = wF at *
        generalize W1.heap.size = gf at *
        clear q0 q1 q2 q3 q4 q5 q6 hwl HGO HSS2 HW1 HL1
        have HRF := HRs.out.on HWF.out
        have HC := find_calls wF HRF.blk HRF.gs HRF.ls 5 o n s na ka ns.length nc ks.length kc p (by omega)
        refine HC.mono ?_
        clear HC HRF
        rintro e3 w3 ⟨rfl, b3⟩
        have K3 : Keep (RT r fv) wF w3 := Keep.of b3
        have HB3 := hid b3
        have HBD := hid (((HRs.out.on HWF.out).on b3).bad K3)
        cases hfp : findP gl lo 5 s with
        | none =>
          unfold findV bareV
          simp only
          have HP := hid (show resN gl (.mk 5 o n s ns ks p) lo fs = .bad p 14 by rw [resN, if_neg (by decide), if_pos (by rfl), hfp])
          have hne1 : go ≠ gf := HZF.out.2.2.2.2
          have hne2 : gf ≠ go := Ne.symm hne1
          have hne3 : gf ≠ w.heap.size + 1 := by have := HZF.out; omega
          have hne4 : gf ≠ w.heap.size + 1 + 1 := by have := HZF.out; omega
          have hne5 : w.heap.size + 1 ≠ gf := Ne.symm hne3
          have hne6 : w.heap.size + 1 + 1 ≠ gf := Ne.symm hne4
          have L3 := hid (HLF.out.keep K3 (fun b h _ => HNR.out b h))
          have GO3 := hid (blk_keep HGOF.out K3 (HNR.out _ (by have := HZF.out; omega)))
          have GF3 := hid (blk_keep HGFF.out K3 (HNR.out _ (by have := HZF.out; omega)))
          have co0 : w3.cell? ⟨go, 0, none⟩ = some (.int .i64 5) := by rw [blk_cell GO3.out]; rfl
          have co1 : w3.cell? ⟨go, 1, none⟩ = some (.int .i64 o) := by rw [blk_cell GO3.out]; rfl
          have co2 : w3.cell? ⟨go, 2, none⟩ = some (.int .i64 n) := by rw [blk_cell GO3.out]; rfl
          have co3 : w3.cell? ⟨go, 3, none⟩ = some (.string s) := by rw [blk_cell GO3.out]; rfl
          have co4 : w3.cell? ⟨go, 4, none⟩ = some (.slice va ns.length vc) := by rw [blk_cell GO3.out]; rfl
          have co5 : w3.cell? ⟨go, 5, none⟩ = some (.slice none 0 0) := by rw [blk_cell GO3.out]; rfl
          have co6 : w3.cell? ⟨go, 6, none⟩ = some (.int .i64 0) := by rw [blk_cell GO3.out]; rfl
          have fo0 : w3.frozen? ⟨go, 0, none⟩ = false := blk_free GO3.out 0
          have fo1 : w3.frozen? ⟨go, 1, none⟩ = false := blk_free GO3.out 1
          have fo2 : w3.frozen? ⟨go, 2, none⟩ = false := blk_free GO3.out 2
          have fo3 : w3.frozen? ⟨go, 3, none⟩ = false := blk_free GO3.out 3
          have fo4 : w3.frozen? ⟨go, 4, none⟩ = false := blk_free GO3.out 4
          have fo5 : w3.frozen? ⟨go, 5, none⟩ = false := blk_free GO3.out 5
          have fo6 : w3.frozen? ⟨go, 6, none⟩ = false := blk_free GO3.out 6
          have cf0 : w3.cell? ⟨gf, 0, none⟩ = some (.int .i64 0) := by rw [blk_cell GF3.out]; rfl
          have cf1 : w3.cell? ⟨gf, 1, none⟩ = some (.int .i64 0) := by rw [blk_cell GF3.out]; rfl
          have ff0 : w3.frozen? ⟨gf, 0, none⟩ = false := blk_free GF3.out 0
          have ff1 : w3.frozen? ⟨gf, 1, none⟩ = false := blk_free GF3.out 1
          have HK3 := hid K3
          clear K3 b3 hfp
          go_wp2_with fail
          have hS5 := put72 (w := w3) HZF.out.2.2.2.2 GO3.out GF3.out (.int .i64 0) (.int .i64 0) (.int .i64 0) (.string ⟨#[]⟩) (.slice none 0 0) (.slice none 0 0) (.int .i64 0) (.int .i64 p) (.int .i64 14)
          clear co0 co1 co2 co3 co4 co5 co6 fo0 fo1 fo2 fo3 fo4 fo5 fo6 cf0 cf1 ff0 ff1
          generalize (((((((((w3.setCell ⟨go, 0, none⟩ (.int .i64 0)).setCell ⟨go, 1, none⟩ (.int .i64 0)).setCell ⟨go, 2, none⟩ (.int .i64 0)).setCell ⟨go, 3, none⟩ (.string ⟨#[]⟩)).setCell ⟨go, 4, none⟩ (.slice none 0 0)).setCell ⟨go, 5, none⟩ (.slice none 0 0)).setCell ⟨go, 6, none⟩ (.int .i64 0)).setCell ⟨gf, 0, none⟩ (.int .i64 p)).setCell ⟨gf, 1, none⟩ (.int .i64 14)) = w5 at *
          have GO5 := hid hS5.1
          have GF5 := hid hS5.2.1
          have KS5 := hid hS5.2.2
          have L5 := hid (L3.out.keep KS5.out (fun b h1 h2 => by have := HZF.out; omega))
          clear hS5 L3
          have K5 := hid ((Bad.before HWF.out HBD.out).put2 hrw KS5.out GO3.out GF3.out (by have := HZF.out; omega) (by have := HZF.out; omega))
          clear GO3 GF3 HBD
          refine (found_calls p 14 w5).mono ?_
          rintro e6 w6 ⟨rfl, b6⟩
          replace L5 := hid (L5.out.on b6)
          replace GF5 := hid (blk_on GF5.out b6)
          replace K5 := hid (K5.out.on b6)
          have u0 : w6.cell? ⟨gf, 0, none⟩ = some (.int .i64 p) := by rw [blk_cell GF5.out]; rfl
          have u1 : w6.cell? ⟨gf, 1, none⟩ = some (.int .i64 14) := by rw [blk_cell GF5.out]; rfl
          clear b6
          go_wp2_with fail
          clear u0 u1
          refine (found_calls p 14 w6).mono ?_
          rintro e9 w9 ⟨rfl, b9⟩
          have hb9 : (14 != 0) = true := by rw [bne_iff_ne]; exact by decide
          have L9 := hid (L5.out.on b9)
          have GF9 := hid (blk_on GF5.out b9)
          have K9 := hid (K5.out.on b9)
          have t0 : w9.cell? ⟨gf, 0, none⟩ = some (.int .i64 p) := by rw [blk_cell GF9.out]; rfl
          have t1 : w9.cell? ⟨gf, 1, none⟩ = some (.int .i64 14) := by rw [blk_cell GF9.out]; rfl
          have za0 : w9.cell? ⟨w.heap.size + 1, 0, none⟩ = some (.int .i64 0) := by rw [blk_cell L9.out.out]; rfl
          have za1 : w9.cell? ⟨w.heap.size + 1, 1, none⟩ = some (.int .i64 0) := by rw [blk_cell L9.out.out]; rfl
          have za2 : w9.cell? ⟨w.heap.size + 1, 2, none⟩ = some (.int .i64 0) := by rw [blk_cell L9.out.out]; rfl
          have za3 : w9.cell? ⟨w.heap.size + 1, 3, none⟩ = some (.string ⟨#[]⟩) := by rw [blk_cell L9.out.out]; rfl
          have za4 : w9.cell? ⟨w.heap.size + 1, 4, none⟩ = some (.slice none 0 0) := by rw [blk_cell L9.out.out]; rfl
          have za5 : w9.cell? ⟨w.heap.size + 1, 5, none⟩ = some (.slice none 0 0) := by rw [blk_cell L9.out.out]; rfl
          have za6 : w9.cell? ⟨w.heap.size + 1, 6, none⟩ = some (.int .i64 0) := by rw [blk_cell L9.out.out]; rfl
          have fa0 : w9.frozen? ⟨w.heap.size + 1, 0, none⟩ = false := blk_free L9.out.out 0
          have fa1 : w9.frozen? ⟨w.heap.size + 1, 1, none⟩ = false := blk_free L9.out.out 1
          have fa2 : w9.frozen? ⟨w.heap.size + 1, 2, none⟩ = false := blk_free L9.out.out 2
          have fa3 : w9.frozen? ⟨w.heap.size + 1, 3, none⟩ = false := blk_free L9.out.out 3
          have fa4 : w9.frozen? ⟨w.heap.size + 1, 4, none⟩ = false := blk_free L9.out.out 4
          have fa5 : w9.frozen? ⟨w.heap.size + 1, 5, none⟩ = false := blk_free L9.out.out 5
          have fa6 : w9.frozen? ⟨w.heap.size + 1, 6, none⟩ = false := blk_free L9.out.out 6
          have zb0 : w9.cell? ⟨w.heap.size + 1 + 1, 0, none⟩ = some (.int .i64 0) := by rw [blk_cell L9.out.flt]; rfl
          have zb1 : w9.cell? ⟨w.heap.size + 1 + 1, 1, none⟩ = some (.int .i64 0) := by rw [blk_cell L9.out.flt]; rfl
          have fb0 : w9.frozen? ⟨w.heap.size + 1 + 1, 0, none⟩ = false := blk_free L9.out.flt 0
          have fb1 : w9.frozen? ⟨w.heap.size + 1 + 1, 1, none⟩ = false := blk_free L9.out.flt 1
          clear b9
          go_wp2_with fail
          go_region
          all_goals
            go_wp2_with fail
            refine bodyPost_ret (ret_n2 (g := w.heap.size + 1) (g' := w.heap.size + 1 + 1) (v0 := (.int .i64 0)) (v1 := (.int .i64 0)) (v2 := (.int .i64 0)) (v3 := (.string ⟨#[]⟩)) (v4 := (.slice none 0 0)) (v5 := (.slice none 0 0)) (v6 := (.int .i64 0)) (x := (.int .i64 p)) (y := (.int .i64 14)) rfl rfl rfl ⟨by go_simp, by go_simp, by go_simp, by go_simp, by go_simp, by go_simp, by go_simp⟩ ⟨by go_simp, by go_simp⟩) rfl ?_
            rw [HP.out]
            refine ⟨rfl, ?_⟩
            have P1 := put72 (w := w9) (g := w.heap.size + 1) (f := w.heap.size + 1 + 1) (by omega) L9.out.out L9.out.flt (.int .i64 0) (.int .i64 0) (.int .i64 0) (.string ⟨#[]⟩) (.slice none 0 0) (.slice none 0 0) (.int .i64 0) (.int .i64 p) (.int .i64 14)
            exact (K9.out.put2 hrw P1.2.2 L9.out.out L9.out.flt (by omega) (by omega)).on (Below.refl _ _).drew
        | some q1 =>
          obtain ⟨k1, i1⟩ := q1
          unfold findV bareV
          simp only
          have HPB := hid (show resN gl (.mk 5 o n s ns ks p) lo fs = (resL gl ks lo fs).bind fun q => .ok (.mk k1 0 i1 ⟨#[]⟩ [] q.1 0, q.2) by rw [resN, if_neg (by decide), if_pos (by rfl), hfp])
          have hne1 : go ≠ gf := HZF.out.2.2.2.2
          have hne2 : gf ≠ go := Ne.symm hne1
          have hne3 : gf ≠ w.heap.size + 1 := by have := HZF.out; omega
          have hne4 : gf ≠ w.heap.size + 1 + 1 := by have := HZF.out; omega
          have hne5 : w.heap.size + 1 ≠ gf := Ne.symm hne3
          have hne6 : w.heap.size + 1 + 1 ≠ gf := Ne.symm hne4
          have L3 := hid (HLF.out.keep K3 (fun b h _ => HNR.out b h))
          have GO3 := hid (blk_keep HGOF.out K3 (HNR.out _ (by have := HZF.out; omega)))
          have GF3 := hid (blk_keep HGFF.out K3 (HNR.out _ (by have := HZF.out; omega)))
          have co0 : w3.cell? ⟨go, 0, none⟩ = some (.int .i64 5) := by rw [blk_cell GO3.out]; rfl
          have co1 : w3.cell? ⟨go, 1, none⟩ = some (.int .i64 o) := by rw [blk_cell GO3.out]; rfl
          have co2 : w3.cell? ⟨go, 2, none⟩ = some (.int .i64 n) := by rw [blk_cell GO3.out]; rfl
          have co3 : w3.cell? ⟨go, 3, none⟩ = some (.string s) := by rw [blk_cell GO3.out]; rfl
          have co4 : w3.cell? ⟨go, 4, none⟩ = some (.slice va ns.length vc) := by rw [blk_cell GO3.out]; rfl
          have co5 : w3.cell? ⟨go, 5, none⟩ = some (.slice none 0 0) := by rw [blk_cell GO3.out]; rfl
          have co6 : w3.cell? ⟨go, 6, none⟩ = some (.int .i64 0) := by rw [blk_cell GO3.out]; rfl
          have fo0 : w3.frozen? ⟨go, 0, none⟩ = false := blk_free GO3.out 0
          have fo1 : w3.frozen? ⟨go, 1, none⟩ = false := blk_free GO3.out 1
          have fo2 : w3.frozen? ⟨go, 2, none⟩ = false := blk_free GO3.out 2
          have fo3 : w3.frozen? ⟨go, 3, none⟩ = false := blk_free GO3.out 3
          have fo4 : w3.frozen? ⟨go, 4, none⟩ = false := blk_free GO3.out 4
          have fo5 : w3.frozen? ⟨go, 5, none⟩ = false := blk_free GO3.out 5
          have fo6 : w3.frozen? ⟨go, 6, none⟩ = false := blk_free GO3.out 6
          have cf0 : w3.cell? ⟨gf, 0, none⟩ = some (.int .i64 0) := by rw [blk_cell GF3.out]; rfl
          have cf1 : w3.cell? ⟨gf, 1, none⟩ = some (.int .i64 0) := by rw [blk_cell GF3.out]; rfl
          have ff0 : w3.frozen? ⟨gf, 0, none⟩ = false := blk_free GF3.out 0
          have ff1 : w3.frozen? ⟨gf, 1, none⟩ = false := blk_free GF3.out 1
          clear K3 b3 hfp
          go_wp2_with fail
          have hS5 := put72 (w := w3) HZF.out.2.2.2.2 GO3.out GF3.out (.int .i64 k1) (.int .i64 0) (.int .i64 (i1 : Int)) (.string ⟨#[]⟩) (.slice none 0 0) (.slice none 0 0) (.int .i64 0) (.int .i64 0) (.int .i64 0)
          clear co0 co1 co2 co3 co4 co5 co6 fo0 fo1 fo2 fo3 fo4 fo5 fo6 cf0 cf1 ff0 ff1
          generalize (((((((((w3.setCell ⟨go, 0, none⟩ (.int .i64 k1)).setCell ⟨go, 1, none⟩ (.int .i64 0)).setCell ⟨go, 2, none⟩ (.int .i64 (i1 : Int))).setCell ⟨go, 3, none⟩ (.string ⟨#[]⟩)).setCell ⟨go, 4, none⟩ (.slice none 0 0)).setCell ⟨go, 5, none⟩ (.slice none 0 0)).setCell ⟨go, 6, none⟩ (.int .i64 0)).setCell ⟨gf, 0, none⟩ (.int .i64 0)).setCell ⟨gf, 1, none⟩ (.int .i64 0)) = w5 at *
          have GO5 := hid hS5.1
          have GF5 := hid hS5.2.1
          have KS5 := hid hS5.2.2
          have L5 := hid (L3.out.keep KS5.out (fun b h1 h2 => by have := HZF.out; omega))
          clear hS5 L3
          refine (found_calls 0 0 w5).mono ?_
          rintro e6 wB ⟨rfl, b6⟩
          have HLB := hid (L5.out.on b6)
          have HGOB := hid (blk_on GO5.out b6)
          have HGFB := hid (blk_on GF5.out b6)
          have hs0 := HWF.out.size
          have hs3 := HB3.out.size
          have hs5 := KS5.out.size
          have hs6 := b6.size
          have hZF := HZF.out
          have HWB := hid (((below_on HWF.out HB3.out).trans (KS5.out.below (B := w.heap.size) (by omega) (fun i (e : i = go ∨ i = gf) => by omega))).trans (b6.mono (by omega)))
          have HSB : Hid (StrsS (fun b => w0.heap.size ≤ b ∧ b < wB.heap.size ∧ b ≠ go ∧ b ≠ gf) (.slice none 0 0) [] wB) := hid (.inl ⟨none, 0, rfl, rfl⟩)
          have HZB := hid (show w0.heap.size ≤ go ∧ go < wB.heap.size ∧ w0.heap.size ≤ gf ∧ gf < wB.heap.size ∧ go ≠ gf by omega)
          have u5 : wB.cell? ⟨w.heap.size, 5, none⟩ = some (.slice ka ks.length kc) := HLB.out.cells.2.2.2.2.2.1
          clear b6 L5 GO5 GF5 KS5 HB3 HLF HGOF HGFF HWF HSF HZF hs0 hs3 hs5 hs6 hZF hne1 hne2 hne3 hne4 hne5 hne6
          go_wp2_with fail
          clear u5
          have HC := HKids.out B r gm lv fv gl lo fs ok _ wB (hid (HRs.out.on HWB.out)) (hid (kidsIn_on (HWB.out.mono hB) (ndIn_mk.1 HN.out).2)) (by have := HWB.out.size; omega) hsk (by rw [countN] at hc; omega) h32
          refine HC.mono ?_
          clear HC
          intro e3 w3 h3
          generalize hR3 : resL gl ks lo fs = R3 at h3
          cases R3 with
          | bad p3 x3 =>
            unfold KidsOut fltP at h3
            simp only at h3
            obtain ⟨rfl, hbd⟩ := h3
            have HBD := hid hbd
            have K3 := hbd.keep
            clear hbd
            have he3 : x3 ≠ 0 := resL_bad _ hR3
            have HP := hid (HPB.out.trans (by rw [hR3]; rfl : _ = Rz.bad p3 x3))
            have hne1 : go ≠ gf := HZB.out.2.2.2.2
            have hne2 : gf ≠ go := Ne.symm hne1
            have hne3 : gf ≠ w.heap.size + 1 := by have := HZB.out; omega
            have hne4 : gf ≠ w.heap.size + 1 + 1 := by have := HZB.out; omega
            have hne5 : w.heap.size + 1 ≠ gf := Ne.symm hne3
            have hne6 : w.heap.size + 1 + 1 ≠ gf := Ne.symm hne4
            have L3 := hid (HLB.out.keep K3 (fun b h _ => HNR.out b h))
            have GO3 := hid (blk_keep HGOB.out K3 (HNR.out _ (by have := HZB.out; omega)))
            have GF3 := hid (blk_keep HGFB.out K3 (HNR.out _ (by have := HZB.out; omega)))
            have co0 : w3.cell? ⟨go, 0, none⟩ = some (.int .i64 k1) := by rw [blk_cell GO3.out]; rfl
            have co1 : w3.cell? ⟨go, 1, none⟩ = some (.int .i64 0) := by rw [blk_cell GO3.out]; rfl
            have co2 : w3.cell? ⟨go, 2, none⟩ = some (.int .i64 (i1 : Int)) := by rw [blk_cell GO3.out]; rfl
            have co3 : w3.cell? ⟨go, 3, none⟩ = some (.string ⟨#[]⟩) := by rw [blk_cell GO3.out]; rfl
            have co4 : w3.cell? ⟨go, 4, none⟩ = some (.slice none 0 0) := by rw [blk_cell GO3.out]; rfl
            have co5 : w3.cell? ⟨go, 5, none⟩ = some (.slice none 0 0) := by rw [blk_cell GO3.out]; rfl
            have co6 : w3.cell? ⟨go, 6, none⟩ = some (.int .i64 0) := by rw [blk_cell GO3.out]; rfl
            have fo0 : w3.frozen? ⟨go, 0, none⟩ = false := blk_free GO3.out 0
            have fo1 : w3.frozen? ⟨go, 1, none⟩ = false := blk_free GO3.out 1
            have fo2 : w3.frozen? ⟨go, 2, none⟩ = false := blk_free GO3.out 2
            have fo3 : w3.frozen? ⟨go, 3, none⟩ = false := blk_free GO3.out 3
            have fo4 : w3.frozen? ⟨go, 4, none⟩ = false := blk_free GO3.out 4
            have fo5 : w3.frozen? ⟨go, 5, none⟩ = false := blk_free GO3.out 5
            have fo6 : w3.frozen? ⟨go, 6, none⟩ = false := blk_free GO3.out 6
            have cf0 : w3.cell? ⟨gf, 0, none⟩ = some (.int .i64 0) := by rw [blk_cell GF3.out]; rfl
            have cf1 : w3.cell? ⟨gf, 1, none⟩ = some (.int .i64 0) := by rw [blk_cell GF3.out]; rfl
            have ff0 : w3.frozen? ⟨gf, 0, none⟩ = false := blk_free GF3.out 0
            have ff1 : w3.frozen? ⟨gf, 1, none⟩ = false := blk_free GF3.out 1
            have HK3 := hid K3
            clear K3 hR3
            go_wp2_with fail
            have hS5 := put12 (w := w3) HZB.out.2.2.2.2 GO3.out GF3.out (.slice none 0 0) (.int .i64 p3) (.int .i64 x3)
            clear co0 co1 co2 co3 co4 co5 co6 fo0 fo1 fo2 fo3 fo4 fo5 fo6 cf0 cf1 ff0 ff1
            generalize (((w3.setCell ⟨go, 5, none⟩ (.slice none 0 0)).setCell ⟨gf, 0, none⟩ (.int .i64 p3)).setCell ⟨gf, 1, none⟩ (.int .i64 x3)) = w5 at *
            have GO5 := hid hS5.1
            have GF5 := hid hS5.2.1
            have KS5 := hid hS5.2.2
            have L5 := hid (L3.out.keep KS5.out (fun b h1 h2 => by have := HZB.out; omega))
            clear hS5 L3
            have K5 := hid ((Bad.before HWB.out HBD.out).put2 hrw KS5.out GO3.out GF3.out (by have := HZB.out; omega) (by have := HZB.out; omega))
            clear GO3 GF3 HBD
            refine (found_calls p3 x3 w5).mono ?_
            rintro e9 w9 ⟨rfl, b9⟩
            have hb9 : (x3 != 0) = true := by rw [bne_iff_ne]; exact he3
            have L9 := hid (L5.out.on b9)
            have GF9 := hid (blk_on GF5.out b9)
            have K9 := hid (K5.out.on b9)
            have t0 : w9.cell? ⟨gf, 0, none⟩ = some (.int .i64 p3) := by rw [blk_cell GF9.out]; rfl
            have t1 : w9.cell? ⟨gf, 1, none⟩ = some (.int .i64 x3) := by rw [blk_cell GF9.out]; rfl
            have za0 : w9.cell? ⟨w.heap.size + 1, 0, none⟩ = some (.int .i64 0) := by rw [blk_cell L9.out.out]; rfl
            have za1 : w9.cell? ⟨w.heap.size + 1, 1, none⟩ = some (.int .i64 0) := by rw [blk_cell L9.out.out]; rfl
            have za2 : w9.cell? ⟨w.heap.size + 1, 2, none⟩ = some (.int .i64 0) := by rw [blk_cell L9.out.out]; rfl
            have za3 : w9.cell? ⟨w.heap.size + 1, 3, none⟩ = some (.string ⟨#[]⟩) := by rw [blk_cell L9.out.out]; rfl
            have za4 : w9.cell? ⟨w.heap.size + 1, 4, none⟩ = some (.slice none 0 0) := by rw [blk_cell L9.out.out]; rfl
            have za5 : w9.cell? ⟨w.heap.size + 1, 5, none⟩ = some (.slice none 0 0) := by rw [blk_cell L9.out.out]; rfl
            have za6 : w9.cell? ⟨w.heap.size + 1, 6, none⟩ = some (.int .i64 0) := by rw [blk_cell L9.out.out]; rfl
            have fa0 : w9.frozen? ⟨w.heap.size + 1, 0, none⟩ = false := blk_free L9.out.out 0
            have fa1 : w9.frozen? ⟨w.heap.size + 1, 1, none⟩ = false := blk_free L9.out.out 1
            have fa2 : w9.frozen? ⟨w.heap.size + 1, 2, none⟩ = false := blk_free L9.out.out 2
            have fa3 : w9.frozen? ⟨w.heap.size + 1, 3, none⟩ = false := blk_free L9.out.out 3
            have fa4 : w9.frozen? ⟨w.heap.size + 1, 4, none⟩ = false := blk_free L9.out.out 4
            have fa5 : w9.frozen? ⟨w.heap.size + 1, 5, none⟩ = false := blk_free L9.out.out 5
            have fa6 : w9.frozen? ⟨w.heap.size + 1, 6, none⟩ = false := blk_free L9.out.out 6
            have zb0 : w9.cell? ⟨w.heap.size + 1 + 1, 0, none⟩ = some (.int .i64 0) := by rw [blk_cell L9.out.flt]; rfl
            have zb1 : w9.cell? ⟨w.heap.size + 1 + 1, 1, none⟩ = some (.int .i64 0) := by rw [blk_cell L9.out.flt]; rfl
            have fb0 : w9.frozen? ⟨w.heap.size + 1 + 1, 0, none⟩ = false := blk_free L9.out.flt 0
            have fb1 : w9.frozen? ⟨w.heap.size + 1 + 1, 1, none⟩ = false := blk_free L9.out.flt 1
            clear b9
            go_wp2_with fail
            go_region
            all_goals
              go_wp2_with fail
              refine bodyPost_ret (ret_n2 (g := w.heap.size + 1) (g' := w.heap.size + 1 + 1) (v0 := (.int .i64 0)) (v1 := (.int .i64 0)) (v2 := (.int .i64 0)) (v3 := (.string ⟨#[]⟩)) (v4 := (.slice none 0 0)) (v5 := (.slice none 0 0)) (v6 := (.int .i64 0)) (x := (.int .i64 p3)) (y := (.int .i64 x3)) rfl rfl rfl ⟨by go_simp, by go_simp, by go_simp, by go_simp, by go_simp, by go_simp, by go_simp⟩ ⟨by go_simp, by go_simp⟩) rfl ?_
              rw [HP.out]
              refine ⟨rfl, ?_⟩
              have P1 := put72 (w := w9) (g := w.heap.size + 1) (f := w.heap.size + 1 + 1) (by omega) L9.out.out L9.out.flt (.int .i64 0) (.int .i64 0) (.int .i64 0) (.string ⟨#[]⟩) (.slice none 0 0) (.slice none 0 0) (.int .i64 0) (.int .i64 p3) (.int .i64 x3)
              exact (K9.out.put2 hrw P1.2.2 L9.out.out L9.out.flt (by omega) (by omega)).on (Below.refl _ _).drew
          | ok q3 =>
            obtain ⟨l3, fs3⟩ := q3
            unfold KidsOut fltP at h3
            simp only at h3
            obtain ⟨kv3, fv3, okR3, ok3, rfl, HN3, W3⟩ := h3
            have HN3 := hid HN3
            have HW3 := hid W3
            have K3 := W3.keep
            obtain ⟨a2, c2, rfl⟩ := kidsS_shape HN3.out
            have HP := hid (HPB.out.trans (by rw [hR3]; rfl : _ = Rz.ok (.mk k1 0 i1 ⟨#[]⟩ [] l3 0, fs3)))
            have hne1 : go ≠ gf := HZB.out.2.2.2.2
            have hne2 : gf ≠ go := Ne.symm hne1
            have hne3 : gf ≠ w.heap.size + 1 := by have := HZB.out; omega
            have hne4 : gf ≠ w.heap.size + 1 + 1 := by have := HZB.out; omega
            have hne5 : w.heap.size + 1 ≠ gf := Ne.symm hne3
            have hne6 : w.heap.size + 1 + 1 ≠ gf := Ne.symm hne4
            have L3 := hid (HLB.out.keep K3 (fun b h _ => HNR.out b h))
            have GO3 := hid (blk_keep HGOB.out K3 (HNR.out _ (by have := HZB.out; omega)))
            have GF3 := hid (blk_keep HGFB.out K3 (HNR.out _ (by have := HZB.out; omega)))
            have co0 : w3.cell? ⟨go, 0, none⟩ = some (.int .i64 k1) := by rw [blk_cell GO3.out]; rfl
            have co1 : w3.cell? ⟨go, 1, none⟩ = some (.int .i64 0) := by rw [blk_cell GO3.out]; rfl
            have co2 : w3.cell? ⟨go, 2, none⟩ = some (.int .i64 (i1 : Int)) := by rw [blk_cell GO3.out]; rfl
            have co3 : w3.cell? ⟨go, 3, none⟩ = some (.string ⟨#[]⟩) := by rw [blk_cell GO3.out]; rfl
            have co4 : w3.cell? ⟨go, 4, none⟩ = some (.slice none 0 0) := by rw [blk_cell GO3.out]; rfl
            have co5 : w3.cell? ⟨go, 5, none⟩ = some (.slice none 0 0) := by rw [blk_cell GO3.out]; rfl
            have co6 : w3.cell? ⟨go, 6, none⟩ = some (.int .i64 0) := by rw [blk_cell GO3.out]; rfl
            have fo0 : w3.frozen? ⟨go, 0, none⟩ = false := blk_free GO3.out 0
            have fo1 : w3.frozen? ⟨go, 1, none⟩ = false := blk_free GO3.out 1
            have fo2 : w3.frozen? ⟨go, 2, none⟩ = false := blk_free GO3.out 2
            have fo3 : w3.frozen? ⟨go, 3, none⟩ = false := blk_free GO3.out 3
            have fo4 : w3.frozen? ⟨go, 4, none⟩ = false := blk_free GO3.out 4
            have fo5 : w3.frozen? ⟨go, 5, none⟩ = false := blk_free GO3.out 5
            have fo6 : w3.frozen? ⟨go, 6, none⟩ = false := blk_free GO3.out 6
            have cf0 : w3.cell? ⟨gf, 0, none⟩ = some (.int .i64 0) := by rw [blk_cell GF3.out]; rfl
            have cf1 : w3.cell? ⟨gf, 1, none⟩ = some (.int .i64 0) := by rw [blk_cell GF3.out]; rfl
            have ff0 : w3.frozen? ⟨gf, 0, none⟩ = false := blk_free GF3.out 0
            have ff1 : w3.frozen? ⟨gf, 1, none⟩ = false := blk_free GF3.out 1
            clear K3 W3 hR3
            go_wp2_with fail
            have hS5 := put12 (w := w3) HZB.out.2.2.2.2 GO3.out GF3.out (.slice a2 l3.length c2) (.int .i64 0) (.int .i64 0)
            clear co0 co1 co2 co3 co4 co5 co6 fo0 fo1 fo2 fo3 fo4 fo5 fo6 cf0 cf1 ff0 ff1
            generalize (((w3.setCell ⟨go, 5, none⟩ (.slice a2 l3.length c2)).setCell ⟨gf, 0, none⟩ (.int .i64 0)).setCell ⟨gf, 1, none⟩ (.int .i64 0)) = w5 at *
            have GO5 := hid hS5.1
            have GF5 := hid hS5.2.1
            have KS5 := hid hS5.2.2
            have L5 := hid (L3.out.keep KS5.out (fun b h1 h2 => by have := HZB.out; omega))
            clear hS5 L3
            refine (found_calls 0 0 w5).mono ?_
            rintro e9 w9 ⟨rfl, b9⟩
            have L9 := hid (L5.out.on b9)
            have GO9 := hid (blk_on GO5.out b9)
            have B9 := hid b9
            have co0 : w9.cell? ⟨go, 0, none⟩ = some (.int .i64 k1) := by rw [blk_cell GO9.out]; rfl
            have co1 : w9.cell? ⟨go, 1, none⟩ = some (.int .i64 0) := by rw [blk_cell GO9.out]; rfl
            have co2 : w9.cell? ⟨go, 2, none⟩ = some (.int .i64 (i1 : Int)) := by rw [blk_cell GO9.out]; rfl
            have co3 : w9.cell? ⟨go, 3, none⟩ = some (.string ⟨#[]⟩) := by rw [blk_cell GO9.out]; rfl
            have co4 : w9.cell? ⟨go, 4, none⟩ = some (.slice none 0 0) := by rw [blk_cell GO9.out]; rfl
            have co5 : w9.cell? ⟨go, 5, none⟩ = some (.slice a2 l3.length c2) := by rw [blk_cell GO9.out]; rfl
            have co6 : w9.cell? ⟨go, 6, none⟩ = some (.int .i64 0) := by rw [blk_cell GO9.out]; rfl
            have za0 : w9.cell? ⟨w.heap.size + 1, 0, none⟩ = some (.int .i64 0) := by rw [blk_cell L9.out.out]; rfl
            have za1 : w9.cell? ⟨w.heap.size + 1, 1, none⟩ = some (.int .i64 0) := by rw [blk_cell L9.out.out]; rfl
            have za2 : w9.cell? ⟨w.heap.size + 1, 2, none⟩ = some (.int .i64 0) := by rw [blk_cell L9.out.out]; rfl
            have za3 : w9.cell? ⟨w.heap.size + 1, 3, none⟩ = some (.string ⟨#[]⟩) := by rw [blk_cell L9.out.out]; rfl
            have za4 : w9.cell? ⟨w.heap.size + 1, 4, none⟩ = some (.slice none 0 0) := by rw [blk_cell L9.out.out]; rfl
            have za5 : w9.cell? ⟨w.heap.size + 1, 5, none⟩ = some (.slice none 0 0) := by rw [blk_cell L9.out.out]; rfl
            have za6 : w9.cell? ⟨w.heap.size + 1, 6, none⟩ = some (.int .i64 0) := by rw [blk_cell L9.out.out]; rfl
            have fa0 : w9.frozen? ⟨w.heap.size + 1, 0, none⟩ = false := blk_free L9.out.out 0
            have fa1 : w9.frozen? ⟨w.heap.size + 1, 1, none⟩ = false := blk_free L9.out.out 1
            have fa2 : w9.frozen? ⟨w.heap.size + 1, 2, none⟩ = false := blk_free L9.out.out 2
            have fa3 : w9.frozen? ⟨w.heap.size + 1, 3, none⟩ = false := blk_free L9.out.out 3
            have fa4 : w9.frozen? ⟨w.heap.size + 1, 4, none⟩ = false := blk_free L9.out.out 4
            have fa5 : w9.frozen? ⟨w.heap.size + 1, 5, none⟩ = false := blk_free L9.out.out 5
            have fa6 : w9.frozen? ⟨w.heap.size + 1, 6, none⟩ = false := blk_free L9.out.out 6
            have zb0 : w9.cell? ⟨w.heap.size + 1 + 1, 0, none⟩ = some (.int .i64 0) := by rw [blk_cell L9.out.flt]; rfl
            have zb1 : w9.cell? ⟨w.heap.size + 1 + 1, 1, none⟩ = some (.int .i64 0) := by rw [blk_cell L9.out.flt]; rfl
            have fb0 : w9.frozen? ⟨w.heap.size + 1 + 1, 0, none⟩ = false := blk_free L9.out.flt 0
            have fb1 : w9.frozen? ⟨w.heap.size + 1 + 1, 1, none⟩ = false := blk_free L9.out.flt 1
            clear b9
            go_wp2_with fail
            refine bodyPost_ret (ret_n2 (g := w.heap.size + 1) (g' := w.heap.size + 1 + 1) (v0 := (.int .i64 k1)) (v1 := (.int .i64 0)) (v2 := (.int .i64 (i1 : Int))) (v3 := (.string ⟨#[]⟩)) (v4 := (.slice none 0 0)) (v5 := (.slice a2 l3.length c2)) (v6 := (.int .i64 0)) (x := (.int .i64 0)) (y := (.int .i64 0)) rfl rfl rfl ⟨by go_simp, by go_simp, by go_simp, by go_simp, by go_simp, by go_simp, by go_simp⟩ ⟨by go_simp, by go_simp⟩) rfl ?_
            rw [HP.out]
            have PK := (put72 (w := w9) (g := w.heap.size + 1) (f := w.heap.size + 1 + 1) (by omega) L9.out.out L9.out.flt (.int .i64 k1) (.int .i64 0) (.int .i64 (i1 : Int)) (.string ⟨#[]⟩) (.slice none 0 0) (.slice a2 l3.length c2) (.int .i64 0) (.int .i64 0) (.int .i64 0)).2.2
            have KT := ((KS5.out.mono (T := fun b => b = go ∨ b = gf ∨ b = w.heap.size + 1 ∨ b = w.heap.size + 1 + 1) (fun i _ e => by rcases e with e | e; exact .inl e; exact .inr (.inl e))).trans (Keep.of (S := fun b => b = go ∨ b = gf ∨ b = w.heap.size + 1 ∨ b = w.heap.size + 1 + 1) B9.out) (fun _ _ h => h)).trans PK (fun i _ e => .inr (.inr e))
            have hwF := HWB.out.size
            have hZZ := HZB.out
            have hw3 := HW3.out.keep.size
            refine ⟨_, _, fv3, fun b => okR3 b ∨ (w0.heap.size ≤ b ∧ b < wB.heap.size ∧ b ≠ go ∧ b ≠ gf), ok3, rfl, ndS_mk.2 ⟨strsS_keep (fun b hb => ⟨.inr hb, (KT.block b (by omega) (fun (e : b = go ∨ b = gf ∨ b = w.heap.size + 1 ∨ b = w.heap.size + 1 + 1) => by omega)).trans (HW3.out.keep.block b hb.2.1 (HNR.out b (by omega)))⟩) HSB.out, kidsS_keep (fun b hb => ⟨.inl hb, KT.block b (HW3.out.new b hb).2.1 (fun (e : b = go ∨ b = gf ∨ b = w.heap.size + 1 ∨ b = w.heap.size + 1 + 1) => by have := (HW3.out.new b hb).1; omega)⟩) HN3.out⟩, Went.slot HRs.out HWB.out HW3.out KT (fun b (e : b = go ∨ b = gf ∨ b = w.heap.size + 1 ∨ b = w.heap.size + 1 + 1) => by omega) (fun b hb => ?_)⟩
            rcases hb with hb | hb
            · exact ⟨by have := (HW3.out.new b hb).1; omega, (HW3.out.new b hb).2⟩
            · exact ⟨by omega, by omega, fun e => by
                rcases HW3.out.row b e with h | h
                · exact HNR.out b (by omega) (.inr h)
                · omega⟩
      · by_cases h21 : k = 21
        · subst h21
          go_wp2_with fail
          generalize W1.alloc (Obj.cells #[.int .i64 0, .int .i64 0] 53) = wF at *
          generalize W1.heap.size = gf at *
          clear q0 q1 q2 q3 q4 q5 q6 hwl HGO HSS2 HW1 HL1
          have HRF := HRs.out.on HWF.out
          have HC := find_calls wF HRF.blk HRF.gs HRF.ls 21 o n s na ka ns.length nc ks.length kc p (by omega)
          refine HC.mono ?_
          clear HC HRF
          rintro e3 w3 ⟨rfl, b3⟩
          have K3 : Keep (RT r fv) wF w3 := Keep.of b3
          have HB3 := hid b3
          have HBD := hid (((HRs.out.on HWF.out).on b3).bad K3)
          cases hfp : findP gl lo 21 s with
          | none =>
            unfold findV bareV
            simp only
            have HP := hid (show resN gl (.mk 21 o n s ns ks p) lo fs = .bad p 14 by rw [resN, if_neg (by decide), if_pos (by rfl), hfp])
            have hne1 : go ≠ gf := HZF.out.2.2.2.2
            have hne2 : gf ≠ go := Ne.symm hne1
            have hne3 : gf ≠ w.heap.size + 1 := by have := HZF.out; omega
            have hne4 : gf ≠ w.heap.size + 1 + 1 := by have := HZF.out; omega
            have hne5 : w.heap.size + 1 ≠ gf := Ne.symm hne3
            have hne6 : w.heap.size + 1 + 1 ≠ gf := Ne.symm hne4
            have L3 := hid (HLF.out.keep K3 (fun b h _ => HNR.out b h))
            have GO3 := hid (blk_keep HGOF.out K3 (HNR.out _ (by have := HZF.out; omega)))
            have GF3 := hid (blk_keep HGFF.out K3 (HNR.out _ (by have := HZF.out; omega)))
            have co0 : w3.cell? ⟨go, 0, none⟩ = some (.int .i64 21) := by rw [blk_cell GO3.out]; rfl
            have co1 : w3.cell? ⟨go, 1, none⟩ = some (.int .i64 o) := by rw [blk_cell GO3.out]; rfl
            have co2 : w3.cell? ⟨go, 2, none⟩ = some (.int .i64 n) := by rw [blk_cell GO3.out]; rfl
            have co3 : w3.cell? ⟨go, 3, none⟩ = some (.string s) := by rw [blk_cell GO3.out]; rfl
            have co4 : w3.cell? ⟨go, 4, none⟩ = some (.slice va ns.length vc) := by rw [blk_cell GO3.out]; rfl
            have co5 : w3.cell? ⟨go, 5, none⟩ = some (.slice none 0 0) := by rw [blk_cell GO3.out]; rfl
            have co6 : w3.cell? ⟨go, 6, none⟩ = some (.int .i64 0) := by rw [blk_cell GO3.out]; rfl
            have fo0 : w3.frozen? ⟨go, 0, none⟩ = false := blk_free GO3.out 0
            have fo1 : w3.frozen? ⟨go, 1, none⟩ = false := blk_free GO3.out 1
            have fo2 : w3.frozen? ⟨go, 2, none⟩ = false := blk_free GO3.out 2
            have fo3 : w3.frozen? ⟨go, 3, none⟩ = false := blk_free GO3.out 3
            have fo4 : w3.frozen? ⟨go, 4, none⟩ = false := blk_free GO3.out 4
            have fo5 : w3.frozen? ⟨go, 5, none⟩ = false := blk_free GO3.out 5
            have fo6 : w3.frozen? ⟨go, 6, none⟩ = false := blk_free GO3.out 6
            have cf0 : w3.cell? ⟨gf, 0, none⟩ = some (.int .i64 0) := by rw [blk_cell GF3.out]; rfl
            have cf1 : w3.cell? ⟨gf, 1, none⟩ = some (.int .i64 0) := by rw [blk_cell GF3.out]; rfl
            have ff0 : w3.frozen? ⟨gf, 0, none⟩ = false := blk_free GF3.out 0
            have ff1 : w3.frozen? ⟨gf, 1, none⟩ = false := blk_free GF3.out 1
            have HK3 := hid K3
            clear K3 b3 hfp
            go_wp2_with fail
            have hS5 := put72 (w := w3) HZF.out.2.2.2.2 GO3.out GF3.out (.int .i64 0) (.int .i64 0) (.int .i64 0) (.string ⟨#[]⟩) (.slice none 0 0) (.slice none 0 0) (.int .i64 0) (.int .i64 p) (.int .i64 14)
            clear co0 co1 co2 co3 co4 co5 co6 fo0 fo1 fo2 fo3 fo4 fo5 fo6 cf0 cf1 ff0 ff1
            generalize (((((((((w3.setCell ⟨go, 0, none⟩ (.int .i64 0)).setCell ⟨go, 1, none⟩ (.int .i64 0)).setCell ⟨go, 2, none⟩ (.int .i64 0)).setCell ⟨go, 3, none⟩ (.string ⟨#[]⟩)).setCell ⟨go, 4, none⟩ (.slice none 0 0)).setCell ⟨go, 5, none⟩ (.slice none 0 0)).setCell ⟨go, 6, none⟩ (.int .i64 0)).setCell ⟨gf, 0, none⟩ (.int .i64 p)).setCell ⟨gf, 1, none⟩ (.int .i64 14)) = w5 at *
            have GO5 := hid hS5.1
            have GF5 := hid hS5.2.1
            have KS5 := hid hS5.2.2
            have L5 := hid (L3.out.keep KS5.out (fun b h1 h2 => by have := HZF.out; omega))
            clear hS5 L3
            have K5 := hid ((Bad.before HWF.out HBD.out).put2 hrw KS5.out GO3.out GF3.out (by have := HZF.out; omega) (by have := HZF.out; omega))
            clear GO3 GF3 HBD
            refine (found_calls p 14 w5).mono ?_
            rintro e6 w6 ⟨rfl, b6⟩
            replace L5 := hid (L5.out.on b6)
            replace GF5 := hid (blk_on GF5.out b6)
            replace K5 := hid (K5.out.on b6)
            have u0 : w6.cell? ⟨gf, 0, none⟩ = some (.int .i64 p) := by rw [blk_cell GF5.out]; rfl
            have u1 : w6.cell? ⟨gf, 1, none⟩ = some (.int .i64 14) := by rw [blk_cell GF5.out]; rfl
            clear b6
            go_wp2_with fail
            clear u0 u1
            refine (found_calls p 14 w6).mono ?_
            rintro e9 w9 ⟨rfl, b9⟩
            have hb9 : (14 != 0) = true := by rw [bne_iff_ne]; exact by decide
            have L9 := hid (L5.out.on b9)
            have GF9 := hid (blk_on GF5.out b9)
            have K9 := hid (K5.out.on b9)
            have t0 : w9.cell? ⟨gf, 0, none⟩ = some (.int .i64 p) := by rw [blk_cell GF9.out]; rfl
            have t1 : w9.cell? ⟨gf, 1, none⟩ = some (.int .i64 14) := by rw [blk_cell GF9.out]; rfl
            have za0 : w9.cell? ⟨w.heap.size + 1, 0, none⟩ = some (.int .i64 0) := by rw [blk_cell L9.out.out]; rfl
            have za1 : w9.cell? ⟨w.heap.size + 1, 1, none⟩ = some (.int .i64 0) := by rw [blk_cell L9.out.out]; rfl
            have za2 : w9.cell? ⟨w.heap.size + 1, 2, none⟩ = some (.int .i64 0) := by rw [blk_cell L9.out.out]; rfl
            have za3 : w9.cell? ⟨w.heap.size + 1, 3, none⟩ = some (.string ⟨#[]⟩) := by rw [blk_cell L9.out.out]; rfl
            have za4 : w9.cell? ⟨w.heap.size + 1, 4, none⟩ = some (.slice none 0 0) := by rw [blk_cell L9.out.out]; rfl
            have za5 : w9.cell? ⟨w.heap.size + 1, 5, none⟩ = some (.slice none 0 0) := by rw [blk_cell L9.out.out]; rfl
            have za6 : w9.cell? ⟨w.heap.size + 1, 6, none⟩ = some (.int .i64 0) := by rw [blk_cell L9.out.out]; rfl
            have fa0 : w9.frozen? ⟨w.heap.size + 1, 0, none⟩ = false := blk_free L9.out.out 0
            have fa1 : w9.frozen? ⟨w.heap.size + 1, 1, none⟩ = false := blk_free L9.out.out 1
            have fa2 : w9.frozen? ⟨w.heap.size + 1, 2, none⟩ = false := blk_free L9.out.out 2
            have fa3 : w9.frozen? ⟨w.heap.size + 1, 3, none⟩ = false := blk_free L9.out.out 3
            have fa4 : w9.frozen? ⟨w.heap.size + 1, 4, none⟩ = false := blk_free L9.out.out 4
            have fa5 : w9.frozen? ⟨w.heap.size + 1, 5, none⟩ = false := blk_free L9.out.out 5
            have fa6 : w9.frozen? ⟨w.heap.size + 1, 6, none⟩ = false := blk_free L9.out.out 6
            have zb0 : w9.cell? ⟨w.heap.size + 1 + 1, 0, none⟩ = some (.int .i64 0) := by rw [blk_cell L9.out.flt]; rfl
            have zb1 : w9.cell? ⟨w.heap.size + 1 + 1, 1, none⟩ = some (.int .i64 0) := by rw [blk_cell L9.out.flt]; rfl
            have fb0 : w9.frozen? ⟨w.heap.size + 1 + 1, 0, none⟩ = false := blk_free L9.out.flt 0
            have fb1 : w9.frozen? ⟨w.heap.size + 1 + 1, 1, none⟩ = false := blk_free L9.out.flt 1
            clear b9
            go_wp2_with fail
            go_region
            all_goals
              go_wp2_with fail
              refine bodyPost_ret (ret_n2 (g := w.heap.size + 1) (g' := w.heap.size + 1 + 1) (v0 := (.int .i64 0)) (v1 := (.int .i64 0)) (v2 := (.int .i64 0)) (v3 := (.string ⟨#[]⟩)) (v4 := (.slice none 0 0)) (v5 := (.slice none 0 0)) (v6 := (.int .i64 0)) (x := (.int .i64 p)) (y := (.int .i64 14)) rfl rfl rfl ⟨by go_simp, by go_simp, by go_simp, by go_simp, by go_simp, by go_simp, by go_simp⟩ ⟨by go_simp, by go_simp⟩) rfl ?_
              rw [HP.out]
              refine ⟨rfl, ?_⟩
              have P1 := put72 (w := w9) (g := w.heap.size + 1) (f := w.heap.size + 1 + 1) (by omega) L9.out.out L9.out.flt (.int .i64 0) (.int .i64 0) (.int .i64 0) (.string ⟨#[]⟩) (.slice none 0 0) (.slice none 0 0) (.int .i64 0) (.int .i64 p) (.int .i64 14)
              exact (K9.out.put2 hrw P1.2.2 L9.out.out L9.out.flt (by omega) (by omega)).on (Below.refl _ _).drew
          | some q1 =>
            obtain ⟨k1, i1⟩ := q1
            unfold findV bareV
            simp only
            have HPB := hid (show resN gl (.mk 21 o n s ns ks p) lo fs = (resL gl ks lo fs).bind fun q => .ok (.mk k1 0 i1 ⟨#[]⟩ [] q.1 0, q.2) by rw [resN, if_neg (by decide), if_pos (by rfl), hfp])
            have hne1 : go ≠ gf := HZF.out.2.2.2.2
            have hne2 : gf ≠ go := Ne.symm hne1
            have hne3 : gf ≠ w.heap.size + 1 := by have := HZF.out; omega
            have hne4 : gf ≠ w.heap.size + 1 + 1 := by have := HZF.out; omega
            have hne5 : w.heap.size + 1 ≠ gf := Ne.symm hne3
            have hne6 : w.heap.size + 1 + 1 ≠ gf := Ne.symm hne4
            have L3 := hid (HLF.out.keep K3 (fun b h _ => HNR.out b h))
            have GO3 := hid (blk_keep HGOF.out K3 (HNR.out _ (by have := HZF.out; omega)))
            have GF3 := hid (blk_keep HGFF.out K3 (HNR.out _ (by have := HZF.out; omega)))
            have co0 : w3.cell? ⟨go, 0, none⟩ = some (.int .i64 21) := by rw [blk_cell GO3.out]; rfl
            have co1 : w3.cell? ⟨go, 1, none⟩ = some (.int .i64 o) := by rw [blk_cell GO3.out]; rfl
            have co2 : w3.cell? ⟨go, 2, none⟩ = some (.int .i64 n) := by rw [blk_cell GO3.out]; rfl
            have co3 : w3.cell? ⟨go, 3, none⟩ = some (.string s) := by rw [blk_cell GO3.out]; rfl
            have co4 : w3.cell? ⟨go, 4, none⟩ = some (.slice va ns.length vc) := by rw [blk_cell GO3.out]; rfl
            have co5 : w3.cell? ⟨go, 5, none⟩ = some (.slice none 0 0) := by rw [blk_cell GO3.out]; rfl
            have co6 : w3.cell? ⟨go, 6, none⟩ = some (.int .i64 0) := by rw [blk_cell GO3.out]; rfl
            have fo0 : w3.frozen? ⟨go, 0, none⟩ = false := blk_free GO3.out 0
            have fo1 : w3.frozen? ⟨go, 1, none⟩ = false := blk_free GO3.out 1
            have fo2 : w3.frozen? ⟨go, 2, none⟩ = false := blk_free GO3.out 2
            have fo3 : w3.frozen? ⟨go, 3, none⟩ = false := blk_free GO3.out 3
            have fo4 : w3.frozen? ⟨go, 4, none⟩ = false := blk_free GO3.out 4
            have fo5 : w3.frozen? ⟨go, 5, none⟩ = false := blk_free GO3.out 5
            have fo6 : w3.frozen? ⟨go, 6, none⟩ = false := blk_free GO3.out 6
            have cf0 : w3.cell? ⟨gf, 0, none⟩ = some (.int .i64 0) := by rw [blk_cell GF3.out]; rfl
            have cf1 : w3.cell? ⟨gf, 1, none⟩ = some (.int .i64 0) := by rw [blk_cell GF3.out]; rfl
            have ff0 : w3.frozen? ⟨gf, 0, none⟩ = false := blk_free GF3.out 0
            have ff1 : w3.frozen? ⟨gf, 1, none⟩ = false := blk_free GF3.out 1
            clear K3 b3 hfp
            go_wp2_with fail
            have hS5 := put72 (w := w3) HZF.out.2.2.2.2 GO3.out GF3.out (.int .i64 k1) (.int .i64 0) (.int .i64 (i1 : Int)) (.string ⟨#[]⟩) (.slice none 0 0) (.slice none 0 0) (.int .i64 0) (.int .i64 0) (.int .i64 0)
            clear co0 co1 co2 co3 co4 co5 co6 fo0 fo1 fo2 fo3 fo4 fo5 fo6 cf0 cf1 ff0 ff1
            generalize (((((((((w3.setCell ⟨go, 0, none⟩ (.int .i64 k1)).setCell ⟨go, 1, none⟩ (.int .i64 0)).setCell ⟨go, 2, none⟩ (.int .i64 (i1 : Int))).setCell ⟨go, 3, none⟩ (.string ⟨#[]⟩)).setCell ⟨go, 4, none⟩ (.slice none 0 0)).setCell ⟨go, 5, none⟩ (.slice none 0 0)).setCell ⟨go, 6, none⟩ (.int .i64 0)).setCell ⟨gf, 0, none⟩ (.int .i64 0)).setCell ⟨gf, 1, none⟩ (.int .i64 0)) = w5 at *
            have GO5 := hid hS5.1
            have GF5 := hid hS5.2.1
            have KS5 := hid hS5.2.2
            have L5 := hid (L3.out.keep KS5.out (fun b h1 h2 => by have := HZF.out; omega))
            clear hS5 L3
            refine (found_calls 0 0 w5).mono ?_
            rintro e6 wB ⟨rfl, b6⟩
            have HLB := hid (L5.out.on b6)
            have HGOB := hid (blk_on GO5.out b6)
            have HGFB := hid (blk_on GF5.out b6)
            have hs0 := HWF.out.size
            have hs3 := HB3.out.size
            have hs5 := KS5.out.size
            have hs6 := b6.size
            have hZF := HZF.out
            have HWB := hid (((below_on HWF.out HB3.out).trans (KS5.out.below (B := w.heap.size) (by omega) (fun i (e : i = go ∨ i = gf) => by omega))).trans (b6.mono (by omega)))
            have HSB : Hid (StrsS (fun b => w0.heap.size ≤ b ∧ b < wB.heap.size ∧ b ≠ go ∧ b ≠ gf) (.slice none 0 0) [] wB) := hid (.inl ⟨none, 0, rfl, rfl⟩)
            have HZB := hid (show w0.heap.size ≤ go ∧ go < wB.heap.size ∧ w0.heap.size ≤ gf ∧ gf < wB.heap.size ∧ go ≠ gf by omega)
            have u5 : wB.cell? ⟨w.heap.size, 5, none⟩ = some (.slice ka ks.length kc) := HLB.out.cells.2.2.2.2.2.1
            clear b6 L5 GO5 GF5 KS5 HB3 HLF HGOF HGFF HWF HSF HZF hs0 hs3 hs5 hs6 hZF hne1 hne2 hne3 hne4 hne5 hne6
            go_wp2_with fail
            clear u5
            have HC := HKids.out B r gm lv fv gl lo fs ok _ wB (hid (HRs.out.on HWB.out)) (hid (kidsIn_on (HWB.out.mono hB) (ndIn_mk.1 HN.out).2)) (by have := HWB.out.size; omega) hsk (by rw [countN] at hc; omega) h32
            refine HC.mono ?_
            clear HC
            intro e3 w3 h3
            generalize hR3 : resL gl ks lo fs = R3 at h3
            cases R3 with
            | bad p3 x3 =>
              unfold KidsOut fltP at h3
              simp only at h3
              obtain ⟨rfl, hbd⟩ := h3
              have HBD := hid hbd
              have K3 := hbd.keep
              clear hbd
              have he3 : x3 ≠ 0 := resL_bad _ hR3
              have HP := hid (HPB.out.trans (by rw [hR3]; rfl : _ = Rz.bad p3 x3))
              have hne1 : go ≠ gf := HZB.out.2.2.2.2
              have hne2 : gf ≠ go := Ne.symm hne1
              have hne3 : gf ≠ w.heap.size + 1 := by have := HZB.out; omega
              have hne4 : gf ≠ w.heap.size + 1 + 1 := by have := HZB.out; omega
              have hne5 : w.heap.size + 1 ≠ gf := Ne.symm hne3
              have hne6 : w.heap.size + 1 + 1 ≠ gf := Ne.symm hne4
              have L3 := hid (HLB.out.keep K3 (fun b h _ => HNR.out b h))
              have GO3 := hid (blk_keep HGOB.out K3 (HNR.out _ (by have := HZB.out; omega)))
              have GF3 := hid (blk_keep HGFB.out K3 (HNR.out _ (by have := HZB.out; omega)))
              have co0 : w3.cell? ⟨go, 0, none⟩ = some (.int .i64 k1) := by rw [blk_cell GO3.out]; rfl
              have co1 : w3.cell? ⟨go, 1, none⟩ = some (.int .i64 0) := by rw [blk_cell GO3.out]; rfl
              have co2 : w3.cell? ⟨go, 2, none⟩ = some (.int .i64 (i1 : Int)) := by rw [blk_cell GO3.out]; rfl
              have co3 : w3.cell? ⟨go, 3, none⟩ = some (.string ⟨#[]⟩) := by rw [blk_cell GO3.out]; rfl
              have co4 : w3.cell? ⟨go, 4, none⟩ = some (.slice none 0 0) := by rw [blk_cell GO3.out]; rfl
              have co5 : w3.cell? ⟨go, 5, none⟩ = some (.slice none 0 0) := by rw [blk_cell GO3.out]; rfl
              have co6 : w3.cell? ⟨go, 6, none⟩ = some (.int .i64 0) := by rw [blk_cell GO3.out]; rfl
              have fo0 : w3.frozen? ⟨go, 0, none⟩ = false := blk_free GO3.out 0
              have fo1 : w3.frozen? ⟨go, 1, none⟩ = false := blk_free GO3.out 1
              have fo2 : w3.frozen? ⟨go, 2, none⟩ = false := blk_free GO3.out 2
              have fo3 : w3.frozen? ⟨go, 3, none⟩ = false := blk_free GO3.out 3
              have fo4 : w3.frozen? ⟨go, 4, none⟩ = false := blk_free GO3.out 4
              have fo5 : w3.frozen? ⟨go, 5, none⟩ = false := blk_free GO3.out 5
              have fo6 : w3.frozen? ⟨go, 6, none⟩ = false := blk_free GO3.out 6
              have cf0 : w3.cell? ⟨gf, 0, none⟩ = some (.int .i64 0) := by rw [blk_cell GF3.out]; rfl
              have cf1 : w3.cell? ⟨gf, 1, none⟩ = some (.int .i64 0) := by rw [blk_cell GF3.out]; rfl
              have ff0 : w3.frozen? ⟨gf, 0, none⟩ = false := blk_free GF3.out 0
              have ff1 : w3.frozen? ⟨gf, 1, none⟩ = false := blk_free GF3.out 1
              have HK3 := hid K3
              clear K3 hR3
              go_wp2_with fail
              have hS5 := put12 (w := w3) HZB.out.2.2.2.2 GO3.out GF3.out (.slice none 0 0) (.int .i64 p3) (.int .i64 x3)
              clear co0 co1 co2 co3 co4 co5 co6 fo0 fo1 fo2 fo3 fo4 fo5 fo6 cf0 cf1 ff0 ff1
              generalize (((w3.setCell ⟨go, 5, none⟩ (.slice none 0 0)).setCell ⟨gf, 0, none⟩ (.int .i64 p3)).setCell ⟨gf, 1, none⟩ (.int .i64 x3)) = w5 at *
              have GO5 := hid hS5.1
              have GF5 := hid hS5.2.1
              have KS5 := hid hS5.2.2
              have L5 := hid (L3.out.keep KS5.out (fun b h1 h2 => by have := HZB.out; omega))
              clear hS5 L3
              have K5 := hid ((Bad.before HWB.out HBD.out).put2 hrw KS5.out GO3.out GF3.out (by have := HZB.out; omega) (by have := HZB.out; omega))
              clear GO3 GF3 HBD
              refine (found_calls p3 x3 w5).mono ?_
              rintro e9 w9 ⟨rfl, b9⟩
              have hb9 : (x3 != 0) = true := by rw [bne_iff_ne]; exact he3
              have L9 := hid (L5.out.on b9)
              have GF9 := hid (blk_on GF5.out b9)
              have K9 := hid (K5.out.on b9)
              have t0 : w9.cell? ⟨gf, 0, none⟩ = some (.int .i64 p3) := by rw [blk_cell GF9.out]; rfl
              have t1 : w9.cell? ⟨gf, 1, none⟩ = some (.int .i64 x3) := by rw [blk_cell GF9.out]; rfl
              have za0 : w9.cell? ⟨w.heap.size + 1, 0, none⟩ = some (.int .i64 0) := by rw [blk_cell L9.out.out]; rfl
              have za1 : w9.cell? ⟨w.heap.size + 1, 1, none⟩ = some (.int .i64 0) := by rw [blk_cell L9.out.out]; rfl
              have za2 : w9.cell? ⟨w.heap.size + 1, 2, none⟩ = some (.int .i64 0) := by rw [blk_cell L9.out.out]; rfl
              have za3 : w9.cell? ⟨w.heap.size + 1, 3, none⟩ = some (.string ⟨#[]⟩) := by rw [blk_cell L9.out.out]; rfl
              have za4 : w9.cell? ⟨w.heap.size + 1, 4, none⟩ = some (.slice none 0 0) := by rw [blk_cell L9.out.out]; rfl
              have za5 : w9.cell? ⟨w.heap.size + 1, 5, none⟩ = some (.slice none 0 0) := by rw [blk_cell L9.out.out]; rfl
              have za6 : w9.cell? ⟨w.heap.size + 1, 6, none⟩ = some (.int .i64 0) := by rw [blk_cell L9.out.out]; rfl
              have fa0 : w9.frozen? ⟨w.heap.size + 1, 0, none⟩ = false := blk_free L9.out.out 0
              have fa1 : w9.frozen? ⟨w.heap.size + 1, 1, none⟩ = false := blk_free L9.out.out 1
              have fa2 : w9.frozen? ⟨w.heap.size + 1, 2, none⟩ = false := blk_free L9.out.out 2
              have fa3 : w9.frozen? ⟨w.heap.size + 1, 3, none⟩ = false := blk_free L9.out.out 3
              have fa4 : w9.frozen? ⟨w.heap.size + 1, 4, none⟩ = false := blk_free L9.out.out 4
              have fa5 : w9.frozen? ⟨w.heap.size + 1, 5, none⟩ = false := blk_free L9.out.out 5
              have fa6 : w9.frozen? ⟨w.heap.size + 1, 6, none⟩ = false := blk_free L9.out.out 6
              have zb0 : w9.cell? ⟨w.heap.size + 1 + 1, 0, none⟩ = some (.int .i64 0) := by rw [blk_cell L9.out.flt]; rfl
              have zb1 : w9.cell? ⟨w.heap.size + 1 + 1, 1, none⟩ = some (.int .i64 0) := by rw [blk_cell L9.out.flt]; rfl
              have fb0 : w9.frozen? ⟨w.heap.size + 1 + 1, 0, none⟩ = false := blk_free L9.out.flt 0
              have fb1 : w9.frozen? ⟨w.heap.size + 1 + 1, 1, none⟩ = false := blk_free L9.out.flt 1
              clear b9
              go_wp2_with fail
              go_region
              all_goals
                go_wp2_with fail
                refine bodyPost_ret (ret_n2 (g := w.heap.size + 1) (g' := w.heap.size + 1 + 1) (v0 := (.int .i64 0)) (v1 := (.int .i64 0)) (v2 := (.int .i64 0)) (v3 := (.string ⟨#[]⟩)) (v4 := (.slice none 0 0)) (v5 := (.slice none 0 0)) (v6 := (.int .i64 0)) (x := (.int .i64 p3)) (y := (.int .i64 x3)) rfl rfl rfl ⟨by go_simp, by go_simp, by go_simp, by go_simp, by go_simp, by go_simp, by go_simp⟩ ⟨by go_simp, by go_simp⟩) rfl ?_
                rw [HP.out]
                refine ⟨rfl, ?_⟩
                have P1 := put72 (w := w9) (g := w.heap.size + 1) (f := w.heap.size + 1 + 1) (by omega) L9.out.out L9.out.flt (.int .i64 0) (.int .i64 0) (.int .i64 0) (.string ⟨#[]⟩) (.slice none 0 0) (.slice none 0 0) (.int .i64 0) (.int .i64 p3) (.int .i64 x3)
                exact (K9.out.put2 hrw P1.2.2 L9.out.out L9.out.flt (by omega) (by omega)).on (Below.refl _ _).drew
            | ok q3 =>
              obtain ⟨l3, fs3⟩ := q3
              unfold KidsOut fltP at h3
              simp only at h3
              obtain ⟨kv3, fv3, okR3, ok3, rfl, HN3, W3⟩ := h3
              have HN3 := hid HN3
              have HW3 := hid W3
              have K3 := W3.keep
              obtain ⟨a2, c2, rfl⟩ := kidsS_shape HN3.out
              have HP := hid (HPB.out.trans (by rw [hR3]; rfl : _ = Rz.ok (.mk k1 0 i1 ⟨#[]⟩ [] l3 0, fs3)))
              have hne1 : go ≠ gf := HZB.out.2.2.2.2
              have hne2 : gf ≠ go := Ne.symm hne1
              have hne3 : gf ≠ w.heap.size + 1 := by have := HZB.out; omega
              have hne4 : gf ≠ w.heap.size + 1 + 1 := by have := HZB.out; omega
              have hne5 : w.heap.size + 1 ≠ gf := Ne.symm hne3
              have hne6 : w.heap.size + 1 + 1 ≠ gf := Ne.symm hne4
              have L3 := hid (HLB.out.keep K3 (fun b h _ => HNR.out b h))
              have GO3 := hid (blk_keep HGOB.out K3 (HNR.out _ (by have := HZB.out; omega)))
              have GF3 := hid (blk_keep HGFB.out K3 (HNR.out _ (by have := HZB.out; omega)))
              have co0 : w3.cell? ⟨go, 0, none⟩ = some (.int .i64 k1) := by rw [blk_cell GO3.out]; rfl
              have co1 : w3.cell? ⟨go, 1, none⟩ = some (.int .i64 0) := by rw [blk_cell GO3.out]; rfl
              have co2 : w3.cell? ⟨go, 2, none⟩ = some (.int .i64 (i1 : Int)) := by rw [blk_cell GO3.out]; rfl
              have co3 : w3.cell? ⟨go, 3, none⟩ = some (.string ⟨#[]⟩) := by rw [blk_cell GO3.out]; rfl
              have co4 : w3.cell? ⟨go, 4, none⟩ = some (.slice none 0 0) := by rw [blk_cell GO3.out]; rfl
              have co5 : w3.cell? ⟨go, 5, none⟩ = some (.slice none 0 0) := by rw [blk_cell GO3.out]; rfl
              have co6 : w3.cell? ⟨go, 6, none⟩ = some (.int .i64 0) := by rw [blk_cell GO3.out]; rfl
              have fo0 : w3.frozen? ⟨go, 0, none⟩ = false := blk_free GO3.out 0
              have fo1 : w3.frozen? ⟨go, 1, none⟩ = false := blk_free GO3.out 1
              have fo2 : w3.frozen? ⟨go, 2, none⟩ = false := blk_free GO3.out 2
              have fo3 : w3.frozen? ⟨go, 3, none⟩ = false := blk_free GO3.out 3
              have fo4 : w3.frozen? ⟨go, 4, none⟩ = false := blk_free GO3.out 4
              have fo5 : w3.frozen? ⟨go, 5, none⟩ = false := blk_free GO3.out 5
              have fo6 : w3.frozen? ⟨go, 6, none⟩ = false := blk_free GO3.out 6
              have cf0 : w3.cell? ⟨gf, 0, none⟩ = some (.int .i64 0) := by rw [blk_cell GF3.out]; rfl
              have cf1 : w3.cell? ⟨gf, 1, none⟩ = some (.int .i64 0) := by rw [blk_cell GF3.out]; rfl
              have ff0 : w3.frozen? ⟨gf, 0, none⟩ = false := blk_free GF3.out 0
              have ff1 : w3.frozen? ⟨gf, 1, none⟩ = false := blk_free GF3.out 1
              clear K3 W3 hR3
              go_wp2_with fail
              have hS5 := put12 (w := w3) HZB.out.2.2.2.2 GO3.out GF3.out (.slice a2 l3.length c2) (.int .i64 0) (.int .i64 0)
              clear co0 co1 co2 co3 co4 co5 co6 fo0 fo1 fo2 fo3 fo4 fo5 fo6 cf0 cf1 ff0 ff1
              generalize (((w3.setCell ⟨go, 5, none⟩ (.slice a2 l3.length c2)).setCell ⟨gf, 0, none⟩ (.int .i64 0)).setCell ⟨gf, 1, none⟩ (.int .i64 0)) = w5 at *
              have GO5 := hid hS5.1
              have GF5 := hid hS5.2.1
              have KS5 := hid hS5.2.2
              have L5 := hid (L3.out.keep KS5.out (fun b h1 h2 => by have := HZB.out; omega))
              clear hS5 L3
              refine (found_calls 0 0 w5).mono ?_
              rintro e9 w9 ⟨rfl, b9⟩
              have L9 := hid (L5.out.on b9)
              have GO9 := hid (blk_on GO5.out b9)
              have B9 := hid b9
              have co0 : w9.cell? ⟨go, 0, none⟩ = some (.int .i64 k1) := by rw [blk_cell GO9.out]; rfl
              have co1 : w9.cell? ⟨go, 1, none⟩ = some (.int .i64 0) := by rw [blk_cell GO9.out]; rfl
              have co2 : w9.cell? ⟨go, 2, none⟩ = some (.int .i64 (i1 : Int)) := by rw [blk_cell GO9.out]; rfl
              have co3 : w9.cell? ⟨go, 3, none⟩ = some (.string ⟨#[]⟩) := by rw [blk_cell GO9.out]; rfl
              have co4 : w9.cell? ⟨go, 4, none⟩ = some (.slice none 0 0) := by rw [blk_cell GO9.out]; rfl
              have co5 : w9.cell? ⟨go, 5, none⟩ = some (.slice a2 l3.length c2) := by rw [blk_cell GO9.out]; rfl
              have co6 : w9.cell? ⟨go, 6, none⟩ = some (.int .i64 0) := by rw [blk_cell GO9.out]; rfl
              have za0 : w9.cell? ⟨w.heap.size + 1, 0, none⟩ = some (.int .i64 0) := by rw [blk_cell L9.out.out]; rfl
              have za1 : w9.cell? ⟨w.heap.size + 1, 1, none⟩ = some (.int .i64 0) := by rw [blk_cell L9.out.out]; rfl
              have za2 : w9.cell? ⟨w.heap.size + 1, 2, none⟩ = some (.int .i64 0) := by rw [blk_cell L9.out.out]; rfl
              have za3 : w9.cell? ⟨w.heap.size + 1, 3, none⟩ = some (.string ⟨#[]⟩) := by rw [blk_cell L9.out.out]; rfl
              have za4 : w9.cell? ⟨w.heap.size + 1, 4, none⟩ = some (.slice none 0 0) := by rw [blk_cell L9.out.out]; rfl
              have za5 : w9.cell? ⟨w.heap.size + 1, 5, none⟩ = some (.slice none 0 0) := by rw [blk_cell L9.out.out]; rfl
              have za6 : w9.cell? ⟨w.heap.size + 1, 6, none⟩ = some (.int .i64 0) := by rw [blk_cell L9.out.out]; rfl
              have fa0 : w9.frozen? ⟨w.heap.size + 1, 0, none⟩ = false := blk_free L9.out.out 0
              have fa1 : w9.frozen? ⟨w.heap.size + 1, 1, none⟩ = false := blk_free L9.out.out 1
              have fa2 : w9.frozen? ⟨w.heap.size + 1, 2, none⟩ = false := blk_free L9.out.out 2
              have fa3 : w9.frozen? ⟨w.heap.size + 1, 3, none⟩ = false := blk_free L9.out.out 3
              have fa4 : w9.frozen? ⟨w.heap.size + 1, 4, none⟩ = false := blk_free L9.out.out 4
              have fa5 : w9.frozen? ⟨w.heap.size + 1, 5, none⟩ = false := blk_free L9.out.out 5
              have fa6 : w9.frozen? ⟨w.heap.size + 1, 6, none⟩ = false := blk_free L9.out.out 6
              have zb0 : w9.cell? ⟨w.heap.size + 1 + 1, 0, none⟩ = some (.int .i64 0) := by rw [blk_cell L9.out.flt]; rfl
              have zb1 : w9.cell? ⟨w.heap.size + 1 + 1, 1, none⟩ = some (.int .i64 0) := by rw [blk_cell L9.out.flt]; rfl
              have fb0 : w9.frozen? ⟨w.heap.size + 1 + 1, 0, none⟩ = false := blk_free L9.out.flt 0
              have fb1 : w9.frozen? ⟨w.heap.size + 1 + 1, 1, none⟩ = false := blk_free L9.out.flt 1
              clear b9
              go_wp2_with fail
              refine bodyPost_ret (ret_n2 (g := w.heap.size + 1) (g' := w.heap.size + 1 + 1) (v0 := (.int .i64 k1)) (v1 := (.int .i64 0)) (v2 := (.int .i64 (i1 : Int))) (v3 := (.string ⟨#[]⟩)) (v4 := (.slice none 0 0)) (v5 := (.slice a2 l3.length c2)) (v6 := (.int .i64 0)) (x := (.int .i64 0)) (y := (.int .i64 0)) rfl rfl rfl ⟨by go_simp, by go_simp, by go_simp, by go_simp, by go_simp, by go_simp, by go_simp⟩ ⟨by go_simp, by go_simp⟩) rfl ?_
              rw [HP.out]
              have PK := (put72 (w := w9) (g := w.heap.size + 1) (f := w.heap.size + 1 + 1) (by omega) L9.out.out L9.out.flt (.int .i64 k1) (.int .i64 0) (.int .i64 (i1 : Int)) (.string ⟨#[]⟩) (.slice none 0 0) (.slice a2 l3.length c2) (.int .i64 0) (.int .i64 0) (.int .i64 0)).2.2
              have KT := ((KS5.out.mono (T := fun b => b = go ∨ b = gf ∨ b = w.heap.size + 1 ∨ b = w.heap.size + 1 + 1) (fun i _ e => by rcases e with e | e; exact .inl e; exact .inr (.inl e))).trans (Keep.of (S := fun b => b = go ∨ b = gf ∨ b = w.heap.size + 1 ∨ b = w.heap.size + 1 + 1) B9.out) (fun _ _ h => h)).trans PK (fun i _ e => .inr (.inr e))
              have hwF := HWB.out.size
              have hZZ := HZB.out
              have hw3 := HW3.out.keep.size
              refine ⟨_, _, fv3, fun b => okR3 b ∨ (w0.heap.size ≤ b ∧ b < wB.heap.size ∧ b ≠ go ∧ b ≠ gf), ok3, rfl, ndS_mk.2 ⟨strsS_keep (fun b hb => ⟨.inr hb, (KT.block b (by omega) (fun (e : b = go ∨ b = gf ∨ b = w.heap.size + 1 ∨ b = w.heap.size + 1 + 1) => by omega)).trans (HW3.out.keep.block b hb.2.1 (HNR.out b (by omega)))⟩) HSB.out, kidsS_keep (fun b hb => ⟨.inl hb, KT.block b (HW3.out.new b hb).2.1 (fun (e : b = go ∨ b = gf ∨ b = w.heap.size + 1 ∨ b = w.heap.size + 1 + 1) => by have := (HW3.out.new b hb).1; omega)⟩) HN3.out⟩, Went.slot HRs.out HWB.out HW3.out KT (fun b (e : b = go ∨ b = gf ∨ b = w.heap.size + 1 ∨ b = w.heap.size + 1 + 1) => by omega) (fun b hb => ?_)⟩
              rcases hb with hb | hb
              · exact ⟨by have := (HW3.out.new b hb).1; omega, (HW3.out.new b hb).2⟩
              · exact ⟨by omega, by omega, fun e => by
                  rcases HW3.out.row b e with h | h
                  · exact HNR.out b (by omega) (.inr h)
                  · omega⟩
        · by_cases h22 : k = 22
          · subst h22
            go_wp2_with fail
            generalize W1.alloc (Obj.cells #[.int .i64 0, .int .i64 0] 53) = wF at *
            generalize W1.heap.size = gf at *
            clear q0 q1 q2 q3 q4 q5 q6 hwl HGO HSS2 HW1 HL1
            have HRF := HRs.out.on HWF.out
            have HC := find_calls wF HRF.blk HRF.gs HRF.ls 22 o n s na ka ns.length nc ks.length kc p (by omega)
            refine HC.mono ?_
            clear HC HRF
            rintro e3 w3 ⟨rfl, b3⟩
            have K3 : Keep (RT r fv) wF w3 := Keep.of b3
            have HB3 := hid b3
            have HBD := hid (((HRs.out.on HWF.out).on b3).bad K3)
            cases hfp : findP gl lo 22 s with
            | none =>
              unfold findV bareV
              simp only
              have HP := hid (show resN gl (.mk 22 o n s ns ks p) lo fs = .bad p 14 by rw [resN, if_neg (by decide), if_pos (by rfl), hfp])
              have hne1 : go ≠ gf := HZF.out.2.2.2.2
              have hne2 : gf ≠ go := Ne.symm hne1
              have hne3 : gf ≠ w.heap.size + 1 := by have := HZF.out; omega
              have hne4 : gf ≠ w.heap.size + 1 + 1 := by have := HZF.out; omega
              have hne5 : w.heap.size + 1 ≠ gf := Ne.symm hne3
              have hne6 : w.heap.size + 1 + 1 ≠ gf := Ne.symm hne4
              have L3 := hid (HLF.out.keep K3 (fun b h _ => HNR.out b h))
              have GO3 := hid (blk_keep HGOF.out K3 (HNR.out _ (by have := HZF.out; omega)))
              have GF3 := hid (blk_keep HGFF.out K3 (HNR.out _ (by have := HZF.out; omega)))
              have co0 : w3.cell? ⟨go, 0, none⟩ = some (.int .i64 22) := by rw [blk_cell GO3.out]; rfl
              have co1 : w3.cell? ⟨go, 1, none⟩ = some (.int .i64 o) := by rw [blk_cell GO3.out]; rfl
              have co2 : w3.cell? ⟨go, 2, none⟩ = some (.int .i64 n) := by rw [blk_cell GO3.out]; rfl
              have co3 : w3.cell? ⟨go, 3, none⟩ = some (.string s) := by rw [blk_cell GO3.out]; rfl
              have co4 : w3.cell? ⟨go, 4, none⟩ = some (.slice va ns.length vc) := by rw [blk_cell GO3.out]; rfl
              have co5 : w3.cell? ⟨go, 5, none⟩ = some (.slice none 0 0) := by rw [blk_cell GO3.out]; rfl
              have co6 : w3.cell? ⟨go, 6, none⟩ = some (.int .i64 0) := by rw [blk_cell GO3.out]; rfl
              have fo0 : w3.frozen? ⟨go, 0, none⟩ = false := blk_free GO3.out 0
              have fo1 : w3.frozen? ⟨go, 1, none⟩ = false := blk_free GO3.out 1
              have fo2 : w3.frozen? ⟨go, 2, none⟩ = false := blk_free GO3.out 2
              have fo3 : w3.frozen? ⟨go, 3, none⟩ = false := blk_free GO3.out 3
              have fo4 : w3.frozen? ⟨go, 4, none⟩ = false := blk_free GO3.out 4
              have fo5 : w3.frozen? ⟨go, 5, none⟩ = false := blk_free GO3.out 5
              have fo6 : w3.frozen? ⟨go, 6, none⟩ = false := blk_free GO3.out 6
              have cf0 : w3.cell? ⟨gf, 0, none⟩ = some (.int .i64 0) := by rw [blk_cell GF3.out]; rfl
              have cf1 : w3.cell? ⟨gf, 1, none⟩ = some (.int .i64 0) := by rw [blk_cell GF3.out]; rfl
              have ff0 : w3.frozen? ⟨gf, 0, none⟩ = false := blk_free GF3.out 0
              have ff1 : w3.frozen? ⟨gf, 1, none⟩ = false := blk_free GF3.out 1
              have HK3 := hid K3
              clear K3 b3 hfp
              go_wp2_with fail
              have hS5 := put72 (w := w3) HZF.out.2.2.2.2 GO3.out GF3.out (.int .i64 0) (.int .i64 0) (.int .i64 0) (.string ⟨#[]⟩) (.slice none 0 0) (.slice none 0 0) (.int .i64 0) (.int .i64 p) (.int .i64 14)
              clear co0 co1 co2 co3 co4 co5 co6 fo0 fo1 fo2 fo3 fo4 fo5 fo6 cf0 cf1 ff0 ff1
              generalize (((((((((w3.setCell ⟨go, 0, none⟩ (.int .i64 0)).setCell ⟨go, 1, none⟩ (.int .i64 0)).setCell ⟨go, 2, none⟩ (.int .i64 0)).setCell ⟨go, 3, none⟩ (.string ⟨#[]⟩)).setCell ⟨go, 4, none⟩ (.slice none 0 0)).setCell ⟨go, 5, none⟩ (.slice none 0 0)).setCell ⟨go, 6, none⟩ (.int .i64 0)).setCell ⟨gf, 0, none⟩ (.int .i64 p)).setCell ⟨gf, 1, none⟩ (.int .i64 14)) = w5 at *
              have GO5 := hid hS5.1
              have GF5 := hid hS5.2.1
              have KS5 := hid hS5.2.2
              have L5 := hid (L3.out.keep KS5.out (fun b h1 h2 => by have := HZF.out; omega))
              clear hS5 L3
              have K5 := hid ((Bad.before HWF.out HBD.out).put2 hrw KS5.out GO3.out GF3.out (by have := HZF.out; omega) (by have := HZF.out; omega))
              clear GO3 GF3 HBD
              refine (found_calls p 14 w5).mono ?_
              rintro e6 w6 ⟨rfl, b6⟩
              replace L5 := hid (L5.out.on b6)
              replace GF5 := hid (blk_on GF5.out b6)
              replace K5 := hid (K5.out.on b6)
              have u0 : w6.cell? ⟨gf, 0, none⟩ = some (.int .i64 p) := by rw [blk_cell GF5.out]; rfl
              have u1 : w6.cell? ⟨gf, 1, none⟩ = some (.int .i64 14) := by rw [blk_cell GF5.out]; rfl
              clear b6
              go_wp2_with fail
              clear u0 u1
              refine (found_calls p 14 w6).mono ?_
              rintro e9 w9 ⟨rfl, b9⟩
              have hb9 : (14 != 0) = true := by rw [bne_iff_ne]; exact by decide
              have L9 := hid (L5.out.on b9)
              have GF9 := hid (blk_on GF5.out b9)
              have K9 := hid (K5.out.on b9)
              have t0 : w9.cell? ⟨gf, 0, none⟩ = some (.int .i64 p) := by rw [blk_cell GF9.out]; rfl
              have t1 : w9.cell? ⟨gf, 1, none⟩ = some (.int .i64 14) := by rw [blk_cell GF9.out]; rfl
              have za0 : w9.cell? ⟨w.heap.size + 1, 0, none⟩ = some (.int .i64 0) := by rw [blk_cell L9.out.out]; rfl
              have za1 : w9.cell? ⟨w.heap.size + 1, 1, none⟩ = some (.int .i64 0) := by rw [blk_cell L9.out.out]; rfl
              have za2 : w9.cell? ⟨w.heap.size + 1, 2, none⟩ = some (.int .i64 0) := by rw [blk_cell L9.out.out]; rfl
              have za3 : w9.cell? ⟨w.heap.size + 1, 3, none⟩ = some (.string ⟨#[]⟩) := by rw [blk_cell L9.out.out]; rfl
              have za4 : w9.cell? ⟨w.heap.size + 1, 4, none⟩ = some (.slice none 0 0) := by rw [blk_cell L9.out.out]; rfl
              have za5 : w9.cell? ⟨w.heap.size + 1, 5, none⟩ = some (.slice none 0 0) := by rw [blk_cell L9.out.out]; rfl
              have za6 : w9.cell? ⟨w.heap.size + 1, 6, none⟩ = some (.int .i64 0) := by rw [blk_cell L9.out.out]; rfl
              have fa0 : w9.frozen? ⟨w.heap.size + 1, 0, none⟩ = false := blk_free L9.out.out 0
              have fa1 : w9.frozen? ⟨w.heap.size + 1, 1, none⟩ = false := blk_free L9.out.out 1
              have fa2 : w9.frozen? ⟨w.heap.size + 1, 2, none⟩ = false := blk_free L9.out.out 2
              have fa3 : w9.frozen? ⟨w.heap.size + 1, 3, none⟩ = false := blk_free L9.out.out 3
              have fa4 : w9.frozen? ⟨w.heap.size + 1, 4, none⟩ = false := blk_free L9.out.out 4
              have fa5 : w9.frozen? ⟨w.heap.size + 1, 5, none⟩ = false := blk_free L9.out.out 5
              have fa6 : w9.frozen? ⟨w.heap.size + 1, 6, none⟩ = false := blk_free L9.out.out 6
              have zb0 : w9.cell? ⟨w.heap.size + 1 + 1, 0, none⟩ = some (.int .i64 0) := by rw [blk_cell L9.out.flt]; rfl
              have zb1 : w9.cell? ⟨w.heap.size + 1 + 1, 1, none⟩ = some (.int .i64 0) := by rw [blk_cell L9.out.flt]; rfl
              have fb0 : w9.frozen? ⟨w.heap.size + 1 + 1, 0, none⟩ = false := blk_free L9.out.flt 0
              have fb1 : w9.frozen? ⟨w.heap.size + 1 + 1, 1, none⟩ = false := blk_free L9.out.flt 1
              clear b9
              go_wp2_with fail
              go_region
              all_goals
                go_wp2_with fail
                refine bodyPost_ret (ret_n2 (g := w.heap.size + 1) (g' := w.heap.size + 1 + 1) (v0 := (.int .i64 0)) (v1 := (.int .i64 0)) (v2 := (.int .i64 0)) (v3 := (.string ⟨#[]⟩)) (v4 := (.slice none 0 0)) (v5 := (.slice none 0 0)) (v6 := (.int .i64 0)) (x := (.int .i64 p)) (y := (.int .i64 14)) rfl rfl rfl ⟨by go_simp, by go_simp, by go_simp, by go_simp, by go_simp, by go_simp, by go_simp⟩ ⟨by go_simp, by go_simp⟩) rfl ?_
                rw [HP.out]
                refine ⟨rfl, ?_⟩
                have P1 := put72 (w := w9) (g := w.heap.size + 1) (f := w.heap.size + 1 + 1) (by omega) L9.out.out L9.out.flt (.int .i64 0) (.int .i64 0) (.int .i64 0) (.string ⟨#[]⟩) (.slice none 0 0) (.slice none 0 0) (.int .i64 0) (.int .i64 p) (.int .i64 14)
                exact (K9.out.put2 hrw P1.2.2 L9.out.out L9.out.flt (by omega) (by omega)).on (Below.refl _ _).drew
            | some q1 =>
              obtain ⟨k1, i1⟩ := q1
              unfold findV bareV
              simp only
              have HPB := hid (show resN gl (.mk 22 o n s ns ks p) lo fs = (resL gl ks lo fs).bind fun q => .ok (.mk k1 0 i1 ⟨#[]⟩ [] q.1 0, q.2) by rw [resN, if_neg (by decide), if_pos (by rfl), hfp])
              have hne1 : go ≠ gf := HZF.out.2.2.2.2
              have hne2 : gf ≠ go := Ne.symm hne1
              have hne3 : gf ≠ w.heap.size + 1 := by have := HZF.out; omega
              have hne4 : gf ≠ w.heap.size + 1 + 1 := by have := HZF.out; omega
              have hne5 : w.heap.size + 1 ≠ gf := Ne.symm hne3
              have hne6 : w.heap.size + 1 + 1 ≠ gf := Ne.symm hne4
              have L3 := hid (HLF.out.keep K3 (fun b h _ => HNR.out b h))
              have GO3 := hid (blk_keep HGOF.out K3 (HNR.out _ (by have := HZF.out; omega)))
              have GF3 := hid (blk_keep HGFF.out K3 (HNR.out _ (by have := HZF.out; omega)))
              have co0 : w3.cell? ⟨go, 0, none⟩ = some (.int .i64 22) := by rw [blk_cell GO3.out]; rfl
              have co1 : w3.cell? ⟨go, 1, none⟩ = some (.int .i64 o) := by rw [blk_cell GO3.out]; rfl
              have co2 : w3.cell? ⟨go, 2, none⟩ = some (.int .i64 n) := by rw [blk_cell GO3.out]; rfl
              have co3 : w3.cell? ⟨go, 3, none⟩ = some (.string s) := by rw [blk_cell GO3.out]; rfl
              have co4 : w3.cell? ⟨go, 4, none⟩ = some (.slice va ns.length vc) := by rw [blk_cell GO3.out]; rfl
              have co5 : w3.cell? ⟨go, 5, none⟩ = some (.slice none 0 0) := by rw [blk_cell GO3.out]; rfl
              have co6 : w3.cell? ⟨go, 6, none⟩ = some (.int .i64 0) := by rw [blk_cell GO3.out]; rfl
              have fo0 : w3.frozen? ⟨go, 0, none⟩ = false := blk_free GO3.out 0
              have fo1 : w3.frozen? ⟨go, 1, none⟩ = false := blk_free GO3.out 1
              have fo2 : w3.frozen? ⟨go, 2, none⟩ = false := blk_free GO3.out 2
              have fo3 : w3.frozen? ⟨go, 3, none⟩ = false := blk_free GO3.out 3
              have fo4 : w3.frozen? ⟨go, 4, none⟩ = false := blk_free GO3.out 4
              have fo5 : w3.frozen? ⟨go, 5, none⟩ = false := blk_free GO3.out 5
              have fo6 : w3.frozen? ⟨go, 6, none⟩ = false := blk_free GO3.out 6
              have cf0 : w3.cell? ⟨gf, 0, none⟩ = some (.int .i64 0) := by rw [blk_cell GF3.out]; rfl
              have cf1 : w3.cell? ⟨gf, 1, none⟩ = some (.int .i64 0) := by rw [blk_cell GF3.out]; rfl
              have ff0 : w3.frozen? ⟨gf, 0, none⟩ = false := blk_free GF3.out 0
              have ff1 : w3.frozen? ⟨gf, 1, none⟩ = false := blk_free GF3.out 1
              clear K3 b3 hfp
              go_wp2_with fail
              have hS5 := put72 (w := w3) HZF.out.2.2.2.2 GO3.out GF3.out (.int .i64 k1) (.int .i64 0) (.int .i64 (i1 : Int)) (.string ⟨#[]⟩) (.slice none 0 0) (.slice none 0 0) (.int .i64 0) (.int .i64 0) (.int .i64 0)
              clear co0 co1 co2 co3 co4 co5 co6 fo0 fo1 fo2 fo3 fo4 fo5 fo6 cf0 cf1 ff0 ff1
              generalize (((((((((w3.setCell ⟨go, 0, none⟩ (.int .i64 k1)).setCell ⟨go, 1, none⟩ (.int .i64 0)).setCell ⟨go, 2, none⟩ (.int .i64 (i1 : Int))).setCell ⟨go, 3, none⟩ (.string ⟨#[]⟩)).setCell ⟨go, 4, none⟩ (.slice none 0 0)).setCell ⟨go, 5, none⟩ (.slice none 0 0)).setCell ⟨go, 6, none⟩ (.int .i64 0)).setCell ⟨gf, 0, none⟩ (.int .i64 0)).setCell ⟨gf, 1, none⟩ (.int .i64 0)) = w5 at *
              have GO5 := hid hS5.1
              have GF5 := hid hS5.2.1
              have KS5 := hid hS5.2.2
              have L5 := hid (L3.out.keep KS5.out (fun b h1 h2 => by have := HZF.out; omega))
              clear hS5 L3
              refine (found_calls 0 0 w5).mono ?_
              rintro e6 wB ⟨rfl, b6⟩
              have HLB := hid (L5.out.on b6)
              have HGOB := hid (blk_on GO5.out b6)
              have HGFB := hid (blk_on GF5.out b6)
              have hs0 := HWF.out.size
              have hs3 := HB3.out.size
              have hs5 := KS5.out.size
              have hs6 := b6.size
              have hZF := HZF.out
              have HWB := hid (((below_on HWF.out HB3.out).trans (KS5.out.below (B := w.heap.size) (by omega) (fun i (e : i = go ∨ i = gf) => by omega))).trans (b6.mono (by omega)))
              have HSB : Hid (StrsS (fun b => w0.heap.size ≤ b ∧ b < wB.heap.size ∧ b ≠ go ∧ b ≠ gf) (.slice none 0 0) [] wB) := hid (.inl ⟨none, 0, rfl, rfl⟩)
              have HZB := hid (show w0.heap.size ≤ go ∧ go < wB.heap.size ∧ w0.heap.size ≤ gf ∧ gf < wB.heap.size ∧ go ≠ gf by omega)
              have u5 : wB.cell? ⟨w.heap.size, 5, none⟩ = some (.slice ka ks.length kc) := HLB.out.cells.2.2.2.2.2.1
              clear b6 L5 GO5 GF5 KS5 HB3 HLF HGOF HGFF HWF HSF HZF hs0 hs3 hs5 hs6 hZF hne1 hne2 hne3 hne4 hne5 hne6
              go_wp2_with fail
              clear u5
              have HC := HKids.out B r gm lv fv gl lo fs ok _ wB (hid (HRs.out.on HWB.out)) (hid (kidsIn_on (HWB.out.mono hB) (ndIn_mk.1 HN.out).2)) (by have := HWB.out.size; omega) hsk (by rw [countN] at hc; omega) h32
              refine HC.mono ?_
              clear HC
              intro e3 w3 h3
              generalize hR3 : resL gl ks lo fs = R3 at h3
              cases R3 with
              | bad p3 x3 =>
                unfold KidsOut fltP at h3
                simp only at h3
                obtain ⟨rfl, hbd⟩ := h3
                have HBD := hid hbd
                have K3 := hbd.keep
                clear hbd
                have he3 : x3 ≠ 0 := resL_bad _ hR3
                have HP := hid (HPB.out.trans (by rw [hR3]; rfl : _ = Rz.bad p3 x3))
                have hne1 : go ≠ gf := HZB.out.2.2.2.2
                have hne2 : gf ≠ go := Ne.symm hne1
                have hne3 : gf ≠ w.heap.size + 1 := by have := HZB.out; omega
                have hne4 : gf ≠ w.heap.size + 1 + 1 := by have := HZB.out; omega
                have hne5 : w.heap.size + 1 ≠ gf := Ne.symm hne3
                have hne6 : w.heap.size + 1 + 1 ≠ gf := Ne.symm hne4
                have L3 := hid (HLB.out.keep K3 (fun b h _ => HNR.out b h))
                have GO3 := hid (blk_keep HGOB.out K3 (HNR.out _ (by have := HZB.out; omega)))
                have GF3 := hid (blk_keep HGFB.out K3 (HNR.out _ (by have := HZB.out; omega)))
                have co0 : w3.cell? ⟨go, 0, none⟩ = some (.int .i64 k1) := by rw [blk_cell GO3.out]; rfl
                have co1 : w3.cell? ⟨go, 1, none⟩ = some (.int .i64 0) := by rw [blk_cell GO3.out]; rfl
                have co2 : w3.cell? ⟨go, 2, none⟩ = some (.int .i64 (i1 : Int)) := by rw [blk_cell GO3.out]; rfl
                have co3 : w3.cell? ⟨go, 3, none⟩ = some (.string ⟨#[]⟩) := by rw [blk_cell GO3.out]; rfl
                have co4 : w3.cell? ⟨go, 4, none⟩ = some (.slice none 0 0) := by rw [blk_cell GO3.out]; rfl
                have co5 : w3.cell? ⟨go, 5, none⟩ = some (.slice none 0 0) := by rw [blk_cell GO3.out]; rfl
                have co6 : w3.cell? ⟨go, 6, none⟩ = some (.int .i64 0) := by rw [blk_cell GO3.out]; rfl
                have fo0 : w3.frozen? ⟨go, 0, none⟩ = false := blk_free GO3.out 0
                have fo1 : w3.frozen? ⟨go, 1, none⟩ = false := blk_free GO3.out 1
                have fo2 : w3.frozen? ⟨go, 2, none⟩ = false := blk_free GO3.out 2
                have fo3 : w3.frozen? ⟨go, 3, none⟩ = false := blk_free GO3.out 3
                have fo4 : w3.frozen? ⟨go, 4, none⟩ = false := blk_free GO3.out 4
                have fo5 : w3.frozen? ⟨go, 5, none⟩ = false := blk_free GO3.out 5
                have fo6 : w3.frozen? ⟨go, 6, none⟩ = false := blk_free GO3.out 6
                have cf0 : w3.cell? ⟨gf, 0, none⟩ = some (.int .i64 0) := by rw [blk_cell GF3.out]; rfl
                have cf1 : w3.cell? ⟨gf, 1, none⟩ = some (.int .i64 0) := by rw [blk_cell GF3.out]; rfl
                have ff0 : w3.frozen? ⟨gf, 0, none⟩ = false := blk_free GF3.out 0
                have ff1 : w3.frozen? ⟨gf, 1, none⟩ = false := blk_free GF3.out 1
                have HK3 := hid K3
                clear K3 hR3
                go_wp2_with fail
                have hS5 := put12 (w := w3) HZB.out.2.2.2.2 GO3.out GF3.out (.slice none 0 0) (.int .i64 p3) (.int .i64 x3)
                clear co0 co1 co2 co3 co4 co5 co6 fo0 fo1 fo2 fo3 fo4 fo5 fo6 cf0 cf1 ff0 ff1
                generalize (((w3.setCell ⟨go, 5, none⟩ (.slice none 0 0)).setCell ⟨gf, 0, none⟩ (.int .i64 p3)).setCell ⟨gf, 1, none⟩ (.int .i64 x3)) = w5 at *
                have GO5 := hid hS5.1
                have GF5 := hid hS5.2.1
                have KS5 := hid hS5.2.2
                have L5 := hid (L3.out.keep KS5.out (fun b h1 h2 => by have := HZB.out; omega))
                clear hS5 L3
                have K5 := hid ((Bad.before HWB.out HBD.out).put2 hrw KS5.out GO3.out GF3.out (by have := HZB.out; omega) (by have := HZB.out; omega))
                clear GO3 GF3 HBD
                refine (found_calls p3 x3 w5).mono ?_
                rintro e9 w9 ⟨rfl, b9⟩
                have hb9 : (x3 != 0) = true := by rw [bne_iff_ne]; exact he3
                have L9 := hid (L5.out.on b9)
                have GF9 := hid (blk_on GF5.out b9)
                have K9 := hid (K5.out.on b9)
                have t0 : w9.cell? ⟨gf, 0, none⟩ = some (.int .i64 p3) := by rw [blk_cell GF9.out]; rfl
                have t1 : w9.cell? ⟨gf, 1, none⟩ = some (.int .i64 x3) := by rw [blk_cell GF9.out]; rfl
                have za0 : w9.cell? ⟨w.heap.size + 1, 0, none⟩ = some (.int .i64 0) := by rw [blk_cell L9.out.out]; rfl
                have za1 : w9.cell? ⟨w.heap.size + 1, 1, none⟩ = some (.int .i64 0) := by rw [blk_cell L9.out.out]; rfl
                have za2 : w9.cell? ⟨w.heap.size + 1, 2, none⟩ = some (.int .i64 0) := by rw [blk_cell L9.out.out]; rfl
                have za3 : w9.cell? ⟨w.heap.size + 1, 3, none⟩ = some (.string ⟨#[]⟩) := by rw [blk_cell L9.out.out]; rfl
                have za4 : w9.cell? ⟨w.heap.size + 1, 4, none⟩ = some (.slice none 0 0) := by rw [blk_cell L9.out.out]; rfl
                have za5 : w9.cell? ⟨w.heap.size + 1, 5, none⟩ = some (.slice none 0 0) := by rw [blk_cell L9.out.out]; rfl
                have za6 : w9.cell? ⟨w.heap.size + 1, 6, none⟩ = some (.int .i64 0) := by rw [blk_cell L9.out.out]; rfl
                have fa0 : w9.frozen? ⟨w.heap.size + 1, 0, none⟩ = false := blk_free L9.out.out 0
                have fa1 : w9.frozen? ⟨w.heap.size + 1, 1, none⟩ = false := blk_free L9.out.out 1
                have fa2 : w9.frozen? ⟨w.heap.size + 1, 2, none⟩ = false := blk_free L9.out.out 2
                have fa3 : w9.frozen? ⟨w.heap.size + 1, 3, none⟩ = false := blk_free L9.out.out 3
                have fa4 : w9.frozen? ⟨w.heap.size + 1, 4, none⟩ = false := blk_free L9.out.out 4
                have fa5 : w9.frozen? ⟨w.heap.size + 1, 5, none⟩ = false := blk_free L9.out.out 5
                have fa6 : w9.frozen? ⟨w.heap.size + 1, 6, none⟩ = false := blk_free L9.out.out 6
                have zb0 : w9.cell? ⟨w.heap.size + 1 + 1, 0, none⟩ = some (.int .i64 0) := by rw [blk_cell L9.out.flt]; rfl
                have zb1 : w9.cell? ⟨w.heap.size + 1 + 1, 1, none⟩ = some (.int .i64 0) := by rw [blk_cell L9.out.flt]; rfl
                have fb0 : w9.frozen? ⟨w.heap.size + 1 + 1, 0, none⟩ = false := blk_free L9.out.flt 0
                have fb1 : w9.frozen? ⟨w.heap.size + 1 + 1, 1, none⟩ = false := blk_free L9.out.flt 1
                clear b9
                go_wp2_with fail
                go_region
                all_goals
                  go_wp2_with fail
                  refine bodyPost_ret (ret_n2 (g := w.heap.size + 1) (g' := w.heap.size + 1 + 1) (v0 := (.int .i64 0)) (v1 := (.int .i64 0)) (v2 := (.int .i64 0)) (v3 := (.string ⟨#[]⟩)) (v4 := (.slice none 0 0)) (v5 := (.slice none 0 0)) (v6 := (.int .i64 0)) (x := (.int .i64 p3)) (y := (.int .i64 x3)) rfl rfl rfl ⟨by go_simp, by go_simp, by go_simp, by go_simp, by go_simp, by go_simp, by go_simp⟩ ⟨by go_simp, by go_simp⟩) rfl ?_
                  rw [HP.out]
                  refine ⟨rfl, ?_⟩
                  have P1 := put72 (w := w9) (g := w.heap.size + 1) (f := w.heap.size + 1 + 1) (by omega) L9.out.out L9.out.flt (.int .i64 0) (.int .i64 0) (.int .i64 0) (.string ⟨#[]⟩) (.slice none 0 0) (.slice none 0 0) (.int .i64 0) (.int .i64 p3) (.int .i64 x3)
                  exact (K9.out.put2 hrw P1.2.2 L9.out.out L9.out.flt (by omega) (by omega)).on (Below.refl _ _).drew
              | ok q3 =>
                obtain ⟨l3, fs3⟩ := q3
                unfold KidsOut fltP at h3
                simp only at h3
                obtain ⟨kv3, fv3, okR3, ok3, rfl, HN3, W3⟩ := h3
                have HN3 := hid HN3
                have HW3 := hid W3
                have K3 := W3.keep
                obtain ⟨a2, c2, rfl⟩ := kidsS_shape HN3.out
                have HP := hid (HPB.out.trans (by rw [hR3]; rfl : _ = Rz.ok (.mk k1 0 i1 ⟨#[]⟩ [] l3 0, fs3)))
                have hne1 : go ≠ gf := HZB.out.2.2.2.2
                have hne2 : gf ≠ go := Ne.symm hne1
                have hne3 : gf ≠ w.heap.size + 1 := by have := HZB.out; omega
                have hne4 : gf ≠ w.heap.size + 1 + 1 := by have := HZB.out; omega
                have hne5 : w.heap.size + 1 ≠ gf := Ne.symm hne3
                have hne6 : w.heap.size + 1 + 1 ≠ gf := Ne.symm hne4
                have L3 := hid (HLB.out.keep K3 (fun b h _ => HNR.out b h))
                have GO3 := hid (blk_keep HGOB.out K3 (HNR.out _ (by have := HZB.out; omega)))
                have GF3 := hid (blk_keep HGFB.out K3 (HNR.out _ (by have := HZB.out; omega)))
                have co0 : w3.cell? ⟨go, 0, none⟩ = some (.int .i64 k1) := by rw [blk_cell GO3.out]; rfl
                have co1 : w3.cell? ⟨go, 1, none⟩ = some (.int .i64 0) := by rw [blk_cell GO3.out]; rfl
                have co2 : w3.cell? ⟨go, 2, none⟩ = some (.int .i64 (i1 : Int)) := by rw [blk_cell GO3.out]; rfl
                have co3 : w3.cell? ⟨go, 3, none⟩ = some (.string ⟨#[]⟩) := by rw [blk_cell GO3.out]; rfl
                have co4 : w3.cell? ⟨go, 4, none⟩ = some (.slice none 0 0) := by rw [blk_cell GO3.out]; rfl
                have co5 : w3.cell? ⟨go, 5, none⟩ = some (.slice none 0 0) := by rw [blk_cell GO3.out]; rfl
                have co6 : w3.cell? ⟨go, 6, none⟩ = some (.int .i64 0) := by rw [blk_cell GO3.out]; rfl
                have fo0 : w3.frozen? ⟨go, 0, none⟩ = false := blk_free GO3.out 0
                have fo1 : w3.frozen? ⟨go, 1, none⟩ = false := blk_free GO3.out 1
                have fo2 : w3.frozen? ⟨go, 2, none⟩ = false := blk_free GO3.out 2
                have fo3 : w3.frozen? ⟨go, 3, none⟩ = false := blk_free GO3.out 3
                have fo4 : w3.frozen? ⟨go, 4, none⟩ = false := blk_free GO3.out 4
                have fo5 : w3.frozen? ⟨go, 5, none⟩ = false := blk_free GO3.out 5
                have fo6 : w3.frozen? ⟨go, 6, none⟩ = false := blk_free GO3.out 6
                have cf0 : w3.cell? ⟨gf, 0, none⟩ = some (.int .i64 0) := by rw [blk_cell GF3.out]; rfl
                have cf1 : w3.cell? ⟨gf, 1, none⟩ = some (.int .i64 0) := by rw [blk_cell GF3.out]; rfl
                have ff0 : w3.frozen? ⟨gf, 0, none⟩ = false := blk_free GF3.out 0
                have ff1 : w3.frozen? ⟨gf, 1, none⟩ = false := blk_free GF3.out 1
                clear K3 W3 hR3
                go_wp2_with fail
                have hS5 := put12 (w := w3) HZB.out.2.2.2.2 GO3.out GF3.out (.slice a2 l3.length c2) (.int .i64 0) (.int .i64 0)
                clear co0 co1 co2 co3 co4 co5 co6 fo0 fo1 fo2 fo3 fo4 fo5 fo6 cf0 cf1 ff0 ff1
                generalize (((w3.setCell ⟨go, 5, none⟩ (.slice a2 l3.length c2)).setCell ⟨gf, 0, none⟩ (.int .i64 0)).setCell ⟨gf, 1, none⟩ (.int .i64 0)) = w5 at *
                have GO5 := hid hS5.1
                have GF5 := hid hS5.2.1
                have KS5 := hid hS5.2.2
                have L5 := hid (L3.out.keep KS5.out (fun b h1 h2 => by have := HZB.out; omega))
                clear hS5 L3
                refine (found_calls 0 0 w5).mono ?_
                rintro e9 w9 ⟨rfl, b9⟩
                have L9 := hid (L5.out.on b9)
                have GO9 := hid (blk_on GO5.out b9)
                have B9 := hid b9
                have co0 : w9.cell? ⟨go, 0, none⟩ = some (.int .i64 k1) := by rw [blk_cell GO9.out]; rfl
                have co1 : w9.cell? ⟨go, 1, none⟩ = some (.int .i64 0) := by rw [blk_cell GO9.out]; rfl
                have co2 : w9.cell? ⟨go, 2, none⟩ = some (.int .i64 (i1 : Int)) := by rw [blk_cell GO9.out]; rfl
                have co3 : w9.cell? ⟨go, 3, none⟩ = some (.string ⟨#[]⟩) := by rw [blk_cell GO9.out]; rfl
                have co4 : w9.cell? ⟨go, 4, none⟩ = some (.slice none 0 0) := by rw [blk_cell GO9.out]; rfl
                have co5 : w9.cell? ⟨go, 5, none⟩ = some (.slice a2 l3.length c2) := by rw [blk_cell GO9.out]; rfl
                have co6 : w9.cell? ⟨go, 6, none⟩ = some (.int .i64 0) := by rw [blk_cell GO9.out]; rfl
                have za0 : w9.cell? ⟨w.heap.size + 1, 0, none⟩ = some (.int .i64 0) := by rw [blk_cell L9.out.out]; rfl
                have za1 : w9.cell? ⟨w.heap.size + 1, 1, none⟩ = some (.int .i64 0) := by rw [blk_cell L9.out.out]; rfl
                have za2 : w9.cell? ⟨w.heap.size + 1, 2, none⟩ = some (.int .i64 0) := by rw [blk_cell L9.out.out]; rfl
                have za3 : w9.cell? ⟨w.heap.size + 1, 3, none⟩ = some (.string ⟨#[]⟩) := by rw [blk_cell L9.out.out]; rfl
                have za4 : w9.cell? ⟨w.heap.size + 1, 4, none⟩ = some (.slice none 0 0) := by rw [blk_cell L9.out.out]; rfl
                have za5 : w9.cell? ⟨w.heap.size + 1, 5, none⟩ = some (.slice none 0 0) := by rw [blk_cell L9.out.out]; rfl
                have za6 : w9.cell? ⟨w.heap.size + 1, 6, none⟩ = some (.int .i64 0) := by rw [blk_cell L9.out.out]; rfl
                have fa0 : w9.frozen? ⟨w.heap.size + 1, 0, none⟩ = false := blk_free L9.out.out 0
                have fa1 : w9.frozen? ⟨w.heap.size + 1, 1, none⟩ = false := blk_free L9.out.out 1
                have fa2 : w9.frozen? ⟨w.heap.size + 1, 2, none⟩ = false := blk_free L9.out.out 2
                have fa3 : w9.frozen? ⟨w.heap.size + 1, 3, none⟩ = false := blk_free L9.out.out 3
                have fa4 : w9.frozen? ⟨w.heap.size + 1, 4, none⟩ = false := blk_free L9.out.out 4
                have fa5 : w9.frozen? ⟨w.heap.size + 1, 5, none⟩ = false := blk_free L9.out.out 5
                have fa6 : w9.frozen? ⟨w.heap.size + 1, 6, none⟩ = false := blk_free L9.out.out 6
                have zb0 : w9.cell? ⟨w.heap.size + 1 + 1, 0, none⟩ = some (.int .i64 0) := by rw [blk_cell L9.out.flt]; rfl
                have zb1 : w9.cell? ⟨w.heap.size + 1 + 1, 1, none⟩ = some (.int .i64 0) := by rw [blk_cell L9.out.flt]; rfl
                have fb0 : w9.frozen? ⟨w.heap.size + 1 + 1, 0, none⟩ = false := blk_free L9.out.flt 0
                have fb1 : w9.frozen? ⟨w.heap.size + 1 + 1, 1, none⟩ = false := blk_free L9.out.flt 1
                clear b9
                go_wp2_with fail
                refine bodyPost_ret (ret_n2 (g := w.heap.size + 1) (g' := w.heap.size + 1 + 1) (v0 := (.int .i64 k1)) (v1 := (.int .i64 0)) (v2 := (.int .i64 (i1 : Int))) (v3 := (.string ⟨#[]⟩)) (v4 := (.slice none 0 0)) (v5 := (.slice a2 l3.length c2)) (v6 := (.int .i64 0)) (x := (.int .i64 0)) (y := (.int .i64 0)) rfl rfl rfl ⟨by go_simp, by go_simp, by go_simp, by go_simp, by go_simp, by go_simp, by go_simp⟩ ⟨by go_simp, by go_simp⟩) rfl ?_
                rw [HP.out]
                have PK := (put72 (w := w9) (g := w.heap.size + 1) (f := w.heap.size + 1 + 1) (by omega) L9.out.out L9.out.flt (.int .i64 k1) (.int .i64 0) (.int .i64 (i1 : Int)) (.string ⟨#[]⟩) (.slice none 0 0) (.slice a2 l3.length c2) (.int .i64 0) (.int .i64 0) (.int .i64 0)).2.2
                have KT := ((KS5.out.mono (T := fun b => b = go ∨ b = gf ∨ b = w.heap.size + 1 ∨ b = w.heap.size + 1 + 1) (fun i _ e => by rcases e with e | e; exact .inl e; exact .inr (.inl e))).trans (Keep.of (S := fun b => b = go ∨ b = gf ∨ b = w.heap.size + 1 ∨ b = w.heap.size + 1 + 1) B9.out) (fun _ _ h => h)).trans PK (fun i _ e => .inr (.inr e))
                have hwF := HWB.out.size
                have hZZ := HZB.out
                have hw3 := HW3.out.keep.size
                refine ⟨_, _, fv3, fun b => okR3 b ∨ (w0.heap.size ≤ b ∧ b < wB.heap.size ∧ b ≠ go ∧ b ≠ gf), ok3, rfl, ndS_mk.2 ⟨strsS_keep (fun b hb => ⟨.inr hb, (KT.block b (by omega) (fun (e : b = go ∨ b = gf ∨ b = w.heap.size + 1 ∨ b = w.heap.size + 1 + 1) => by omega)).trans (HW3.out.keep.block b hb.2.1 (HNR.out b (by omega)))⟩) HSB.out, kidsS_keep (fun b hb => ⟨.inl hb, KT.block b (HW3.out.new b hb).2.1 (fun (e : b = go ∨ b = gf ∨ b = w.heap.size + 1 ∨ b = w.heap.size + 1 + 1) => by have := (HW3.out.new b hb).1; omega)⟩) HN3.out⟩, Went.slot HRs.out HWB.out HW3.out KT (fun b (e : b = go ∨ b = gf ∨ b = w.heap.size + 1 ∨ b = w.heap.size + 1 + 1) => by omega) (fun b hb => ?_)⟩
                rcases hb with hb | hb
                · exact ⟨by have := (HW3.out.new b hb).1; omega, (HW3.out.new b hb).2⟩
                · exact ⟨by omega, by omega, fun e => by
                    rcases HW3.out.row b e with h | h
                    · exact HNR.out b (by omega) (.inr h)
                    · omega⟩
          · have HPB := hid (show resN gl (.mk k o n s ns ks p) lo fs = (resL gl ks lo fs).bind fun q => .ok (.mk k o n s ns q.1 0, q.2) by rw [resN, if_neg h8, if_neg (by simp [isNm, h5, h21, h22])])
            go_wp2_with fail
            generalize W1.alloc (Obj.cells #[.int .i64 0, .int .i64 0] 53) = wB at *
            generalize W1.heap.size = gf at *
            clear q0 q1 q2 q3 q4 q5 q6 hwl HGO HSS2 HW1 HL1
            have HLB := HLF
            have HGOB := HGOF
            have HGFB := HGFF
            have HWB := HWF
            have HSB := HSF
            have HZB := HZF
            clear HLF HGOF HGFF HWF HSF HZF
            have HC := HKids.out B r gm lv fv gl lo fs ok _ wB (hid (HRs.out.on HWB.out)) (hid (kidsIn_on (HWB.out.mono hB) (ndIn_mk.1 HN.out).2)) (by have := HWB.out.size; omega) hsk (by rw [countN] at hc; omega) h32
            refine HC.mono ?_
            clear HC
            intro e3 w3 h3
            generalize hR3 : resL gl ks lo fs = R3 at h3
            cases R3 with
            | bad p3 x3 =>
              unfold KidsOut fltP at h3
              simp only at h3
              obtain ⟨rfl, hbd⟩ := h3
              have HBD := hid hbd
              have K3 := hbd.keep
              clear hbd
              have he3 : x3 ≠ 0 := resL_bad _ hR3
              have HP := hid (HPB.out.trans (by rw [hR3]; rfl : _ = Rz.bad p3 x3))
              have hne1 : go ≠ gf := HZB.out.2.2.2.2
              have hne2 : gf ≠ go := Ne.symm hne1
              have hne3 : gf ≠ w.heap.size + 1 := by have := HZB.out; omega
              have hne4 : gf ≠ w.heap.size + 1 + 1 := by have := HZB.out; omega
              have hne5 : w.heap.size + 1 ≠ gf := Ne.symm hne3
              have hne6 : w.heap.size + 1 + 1 ≠ gf := Ne.symm hne4
              have L3 := hid (HLB.out.keep K3 (fun b h _ => HNR.out b h))
              have GO3 := hid (blk_keep HGOB.out K3 (HNR.out _ (by have := HZB.out; omega)))
              have GF3 := hid (blk_keep HGFB.out K3 (HNR.out _ (by have := HZB.out; omega)))
              have co0 : w3.cell? ⟨go, 0, none⟩ = some (.int .i64 k) := by rw [blk_cell GO3.out]; rfl
              have co1 : w3.cell? ⟨go, 1, none⟩ = some (.int .i64 o) := by rw [blk_cell GO3.out]; rfl
              have co2 : w3.cell? ⟨go, 2, none⟩ = some (.int .i64 n) := by rw [blk_cell GO3.out]; rfl
              have co3 : w3.cell? ⟨go, 3, none⟩ = some (.string s) := by rw [blk_cell GO3.out]; rfl
              have co4 : w3.cell? ⟨go, 4, none⟩ = some (.slice va ns.length vc) := by rw [blk_cell GO3.out]; rfl
              have co5 : w3.cell? ⟨go, 5, none⟩ = some (.slice none 0 0) := by rw [blk_cell GO3.out]; rfl
              have co6 : w3.cell? ⟨go, 6, none⟩ = some (.int .i64 0) := by rw [blk_cell GO3.out]; rfl
              have fo0 : w3.frozen? ⟨go, 0, none⟩ = false := blk_free GO3.out 0
              have fo1 : w3.frozen? ⟨go, 1, none⟩ = false := blk_free GO3.out 1
              have fo2 : w3.frozen? ⟨go, 2, none⟩ = false := blk_free GO3.out 2
              have fo3 : w3.frozen? ⟨go, 3, none⟩ = false := blk_free GO3.out 3
              have fo4 : w3.frozen? ⟨go, 4, none⟩ = false := blk_free GO3.out 4
              have fo5 : w3.frozen? ⟨go, 5, none⟩ = false := blk_free GO3.out 5
              have fo6 : w3.frozen? ⟨go, 6, none⟩ = false := blk_free GO3.out 6
              have cf0 : w3.cell? ⟨gf, 0, none⟩ = some (.int .i64 0) := by rw [blk_cell GF3.out]; rfl
              have cf1 : w3.cell? ⟨gf, 1, none⟩ = some (.int .i64 0) := by rw [blk_cell GF3.out]; rfl
              have ff0 : w3.frozen? ⟨gf, 0, none⟩ = false := blk_free GF3.out 0
              have ff1 : w3.frozen? ⟨gf, 1, none⟩ = false := blk_free GF3.out 1
              have HK3 := hid K3
              clear K3 hR3
              go_wp2_with fail
              have hS5 := put12 (w := w3) HZB.out.2.2.2.2 GO3.out GF3.out (.slice none 0 0) (.int .i64 p3) (.int .i64 x3)
              clear co0 co1 co2 co3 co4 co5 co6 fo0 fo1 fo2 fo3 fo4 fo5 fo6 cf0 cf1 ff0 ff1
              generalize (((w3.setCell ⟨go, 5, none⟩ (.slice none 0 0)).setCell ⟨gf, 0, none⟩ (.int .i64 p3)).setCell ⟨gf, 1, none⟩ (.int .i64 x3)) = w5 at *
              have GO5 := hid hS5.1
              have GF5 := hid hS5.2.1
              have KS5 := hid hS5.2.2
              have L5 := hid (L3.out.keep KS5.out (fun b h1 h2 => by have := HZB.out; omega))
              clear hS5 L3
              have K5 := hid ((Bad.before HWB.out HBD.out).put2 hrw KS5.out GO3.out GF3.out (by have := HZB.out; omega) (by have := HZB.out; omega))
              clear GO3 GF3 HBD
              refine (found_calls p3 x3 w5).mono ?_
              rintro e9 w9 ⟨rfl, b9⟩
              have hb9 : (x3 != 0) = true := by rw [bne_iff_ne]; exact he3
              have L9 := hid (L5.out.on b9)
              have GF9 := hid (blk_on GF5.out b9)
              have K9 := hid (K5.out.on b9)
              have t0 : w9.cell? ⟨gf, 0, none⟩ = some (.int .i64 p3) := by rw [blk_cell GF9.out]; rfl
              have t1 : w9.cell? ⟨gf, 1, none⟩ = some (.int .i64 x3) := by rw [blk_cell GF9.out]; rfl
              have za0 : w9.cell? ⟨w.heap.size + 1, 0, none⟩ = some (.int .i64 0) := by rw [blk_cell L9.out.out]; rfl
              have za1 : w9.cell? ⟨w.heap.size + 1, 1, none⟩ = some (.int .i64 0) := by rw [blk_cell L9.out.out]; rfl
              have za2 : w9.cell? ⟨w.heap.size + 1, 2, none⟩ = some (.int .i64 0) := by rw [blk_cell L9.out.out]; rfl
              have za3 : w9.cell? ⟨w.heap.size + 1, 3, none⟩ = some (.string ⟨#[]⟩) := by rw [blk_cell L9.out.out]; rfl
              have za4 : w9.cell? ⟨w.heap.size + 1, 4, none⟩ = some (.slice none 0 0) := by rw [blk_cell L9.out.out]; rfl
              have za5 : w9.cell? ⟨w.heap.size + 1, 5, none⟩ = some (.slice none 0 0) := by rw [blk_cell L9.out.out]; rfl
              have za6 : w9.cell? ⟨w.heap.size + 1, 6, none⟩ = some (.int .i64 0) := by rw [blk_cell L9.out.out]; rfl
              have fa0 : w9.frozen? ⟨w.heap.size + 1, 0, none⟩ = false := blk_free L9.out.out 0
              have fa1 : w9.frozen? ⟨w.heap.size + 1, 1, none⟩ = false := blk_free L9.out.out 1
              have fa2 : w9.frozen? ⟨w.heap.size + 1, 2, none⟩ = false := blk_free L9.out.out 2
              have fa3 : w9.frozen? ⟨w.heap.size + 1, 3, none⟩ = false := blk_free L9.out.out 3
              have fa4 : w9.frozen? ⟨w.heap.size + 1, 4, none⟩ = false := blk_free L9.out.out 4
              have fa5 : w9.frozen? ⟨w.heap.size + 1, 5, none⟩ = false := blk_free L9.out.out 5
              have fa6 : w9.frozen? ⟨w.heap.size + 1, 6, none⟩ = false := blk_free L9.out.out 6
              have zb0 : w9.cell? ⟨w.heap.size + 1 + 1, 0, none⟩ = some (.int .i64 0) := by rw [blk_cell L9.out.flt]; rfl
              have zb1 : w9.cell? ⟨w.heap.size + 1 + 1, 1, none⟩ = some (.int .i64 0) := by rw [blk_cell L9.out.flt]; rfl
              have fb0 : w9.frozen? ⟨w.heap.size + 1 + 1, 0, none⟩ = false := blk_free L9.out.flt 0
              have fb1 : w9.frozen? ⟨w.heap.size + 1 + 1, 1, none⟩ = false := blk_free L9.out.flt 1
              clear b9
              go_wp2_with fail
              go_region
              all_goals
                go_wp2_with fail
                refine bodyPost_ret (ret_n2 (g := w.heap.size + 1) (g' := w.heap.size + 1 + 1) (v0 := (.int .i64 0)) (v1 := (.int .i64 0)) (v2 := (.int .i64 0)) (v3 := (.string ⟨#[]⟩)) (v4 := (.slice none 0 0)) (v5 := (.slice none 0 0)) (v6 := (.int .i64 0)) (x := (.int .i64 p3)) (y := (.int .i64 x3)) rfl rfl rfl ⟨by go_simp, by go_simp, by go_simp, by go_simp, by go_simp, by go_simp, by go_simp⟩ ⟨by go_simp, by go_simp⟩) rfl ?_
                rw [HP.out]
                refine ⟨rfl, ?_⟩
                have P1 := put72 (w := w9) (g := w.heap.size + 1) (f := w.heap.size + 1 + 1) (by omega) L9.out.out L9.out.flt (.int .i64 0) (.int .i64 0) (.int .i64 0) (.string ⟨#[]⟩) (.slice none 0 0) (.slice none 0 0) (.int .i64 0) (.int .i64 p3) (.int .i64 x3)
                exact (K9.out.put2 hrw P1.2.2 L9.out.out L9.out.flt (by omega) (by omega)).on (Below.refl _ _).drew
            | ok q3 =>
              obtain ⟨l3, fs3⟩ := q3
              unfold KidsOut fltP at h3
              simp only at h3
              obtain ⟨kv3, fv3, okR3, ok3, rfl, HN3, W3⟩ := h3
              have HN3 := hid HN3
              have HW3 := hid W3
              have K3 := W3.keep
              obtain ⟨a2, c2, rfl⟩ := kidsS_shape HN3.out
              have HP := hid (HPB.out.trans (by rw [hR3]; rfl : _ = Rz.ok (.mk k o n s ns l3 0, fs3)))
              have hne1 : go ≠ gf := HZB.out.2.2.2.2
              have hne2 : gf ≠ go := Ne.symm hne1
              have hne3 : gf ≠ w.heap.size + 1 := by have := HZB.out; omega
              have hne4 : gf ≠ w.heap.size + 1 + 1 := by have := HZB.out; omega
              have hne5 : w.heap.size + 1 ≠ gf := Ne.symm hne3
              have hne6 : w.heap.size + 1 + 1 ≠ gf := Ne.symm hne4
              have L3 := hid (HLB.out.keep K3 (fun b h _ => HNR.out b h))
              have GO3 := hid (blk_keep HGOB.out K3 (HNR.out _ (by have := HZB.out; omega)))
              have GF3 := hid (blk_keep HGFB.out K3 (HNR.out _ (by have := HZB.out; omega)))
              have co0 : w3.cell? ⟨go, 0, none⟩ = some (.int .i64 k) := by rw [blk_cell GO3.out]; rfl
              have co1 : w3.cell? ⟨go, 1, none⟩ = some (.int .i64 o) := by rw [blk_cell GO3.out]; rfl
              have co2 : w3.cell? ⟨go, 2, none⟩ = some (.int .i64 n) := by rw [blk_cell GO3.out]; rfl
              have co3 : w3.cell? ⟨go, 3, none⟩ = some (.string s) := by rw [blk_cell GO3.out]; rfl
              have co4 : w3.cell? ⟨go, 4, none⟩ = some (.slice va ns.length vc) := by rw [blk_cell GO3.out]; rfl
              have co5 : w3.cell? ⟨go, 5, none⟩ = some (.slice none 0 0) := by rw [blk_cell GO3.out]; rfl
              have co6 : w3.cell? ⟨go, 6, none⟩ = some (.int .i64 0) := by rw [blk_cell GO3.out]; rfl
              have fo0 : w3.frozen? ⟨go, 0, none⟩ = false := blk_free GO3.out 0
              have fo1 : w3.frozen? ⟨go, 1, none⟩ = false := blk_free GO3.out 1
              have fo2 : w3.frozen? ⟨go, 2, none⟩ = false := blk_free GO3.out 2
              have fo3 : w3.frozen? ⟨go, 3, none⟩ = false := blk_free GO3.out 3
              have fo4 : w3.frozen? ⟨go, 4, none⟩ = false := blk_free GO3.out 4
              have fo5 : w3.frozen? ⟨go, 5, none⟩ = false := blk_free GO3.out 5
              have fo6 : w3.frozen? ⟨go, 6, none⟩ = false := blk_free GO3.out 6
              have cf0 : w3.cell? ⟨gf, 0, none⟩ = some (.int .i64 0) := by rw [blk_cell GF3.out]; rfl
              have cf1 : w3.cell? ⟨gf, 1, none⟩ = some (.int .i64 0) := by rw [blk_cell GF3.out]; rfl
              have ff0 : w3.frozen? ⟨gf, 0, none⟩ = false := blk_free GF3.out 0
              have ff1 : w3.frozen? ⟨gf, 1, none⟩ = false := blk_free GF3.out 1
              clear K3 W3 hR3
              go_wp2_with fail
              have hS5 := put12 (w := w3) HZB.out.2.2.2.2 GO3.out GF3.out (.slice a2 l3.length c2) (.int .i64 0) (.int .i64 0)
              clear co0 co1 co2 co3 co4 co5 co6 fo0 fo1 fo2 fo3 fo4 fo5 fo6 cf0 cf1 ff0 ff1
              generalize (((w3.setCell ⟨go, 5, none⟩ (.slice a2 l3.length c2)).setCell ⟨gf, 0, none⟩ (.int .i64 0)).setCell ⟨gf, 1, none⟩ (.int .i64 0)) = w5 at *
              have GO5 := hid hS5.1
              have GF5 := hid hS5.2.1
              have KS5 := hid hS5.2.2
              have L5 := hid (L3.out.keep KS5.out (fun b h1 h2 => by have := HZB.out; omega))
              clear hS5 L3
              refine (found_calls 0 0 w5).mono ?_
              rintro e9 w9 ⟨rfl, b9⟩
              have L9 := hid (L5.out.on b9)
              have GO9 := hid (blk_on GO5.out b9)
              have B9 := hid b9
              have co0 : w9.cell? ⟨go, 0, none⟩ = some (.int .i64 k) := by rw [blk_cell GO9.out]; rfl
              have co1 : w9.cell? ⟨go, 1, none⟩ = some (.int .i64 o) := by rw [blk_cell GO9.out]; rfl
              have co2 : w9.cell? ⟨go, 2, none⟩ = some (.int .i64 n) := by rw [blk_cell GO9.out]; rfl
              have co3 : w9.cell? ⟨go, 3, none⟩ = some (.string s) := by rw [blk_cell GO9.out]; rfl
              have co4 : w9.cell? ⟨go, 4, none⟩ = some (.slice va ns.length vc) := by rw [blk_cell GO9.out]; rfl
              have co5 : w9.cell? ⟨go, 5, none⟩ = some (.slice a2 l3.length c2) := by rw [blk_cell GO9.out]; rfl
              have co6 : w9.cell? ⟨go, 6, none⟩ = some (.int .i64 0) := by rw [blk_cell GO9.out]; rfl
              have za0 : w9.cell? ⟨w.heap.size + 1, 0, none⟩ = some (.int .i64 0) := by rw [blk_cell L9.out.out]; rfl
              have za1 : w9.cell? ⟨w.heap.size + 1, 1, none⟩ = some (.int .i64 0) := by rw [blk_cell L9.out.out]; rfl
              have za2 : w9.cell? ⟨w.heap.size + 1, 2, none⟩ = some (.int .i64 0) := by rw [blk_cell L9.out.out]; rfl
              have za3 : w9.cell? ⟨w.heap.size + 1, 3, none⟩ = some (.string ⟨#[]⟩) := by rw [blk_cell L9.out.out]; rfl
              have za4 : w9.cell? ⟨w.heap.size + 1, 4, none⟩ = some (.slice none 0 0) := by rw [blk_cell L9.out.out]; rfl
              have za5 : w9.cell? ⟨w.heap.size + 1, 5, none⟩ = some (.slice none 0 0) := by rw [blk_cell L9.out.out]; rfl
              have za6 : w9.cell? ⟨w.heap.size + 1, 6, none⟩ = some (.int .i64 0) := by rw [blk_cell L9.out.out]; rfl
              have fa0 : w9.frozen? ⟨w.heap.size + 1, 0, none⟩ = false := blk_free L9.out.out 0
              have fa1 : w9.frozen? ⟨w.heap.size + 1, 1, none⟩ = false := blk_free L9.out.out 1
              have fa2 : w9.frozen? ⟨w.heap.size + 1, 2, none⟩ = false := blk_free L9.out.out 2
              have fa3 : w9.frozen? ⟨w.heap.size + 1, 3, none⟩ = false := blk_free L9.out.out 3
              have fa4 : w9.frozen? ⟨w.heap.size + 1, 4, none⟩ = false := blk_free L9.out.out 4
              have fa5 : w9.frozen? ⟨w.heap.size + 1, 5, none⟩ = false := blk_free L9.out.out 5
              have fa6 : w9.frozen? ⟨w.heap.size + 1, 6, none⟩ = false := blk_free L9.out.out 6
              have zb0 : w9.cell? ⟨w.heap.size + 1 + 1, 0, none⟩ = some (.int .i64 0) := by rw [blk_cell L9.out.flt]; rfl
              have zb1 : w9.cell? ⟨w.heap.size + 1 + 1, 1, none⟩ = some (.int .i64 0) := by rw [blk_cell L9.out.flt]; rfl
              have fb0 : w9.frozen? ⟨w.heap.size + 1 + 1, 0, none⟩ = false := blk_free L9.out.flt 0
              have fb1 : w9.frozen? ⟨w.heap.size + 1 + 1, 1, none⟩ = false := blk_free L9.out.flt 1
              clear b9
              go_wp2_with fail
              refine bodyPost_ret (ret_n2 (g := w.heap.size + 1) (g' := w.heap.size + 1 + 1) (v0 := (.int .i64 k)) (v1 := (.int .i64 o)) (v2 := (.int .i64 n)) (v3 := (.string s)) (v4 := (.slice va ns.length vc)) (v5 := (.slice a2 l3.length c2)) (v6 := (.int .i64 0)) (x := (.int .i64 0)) (y := (.int .i64 0)) rfl rfl rfl ⟨by go_simp, by go_simp, by go_simp, by go_simp, by go_simp, by go_simp, by go_simp⟩ ⟨by go_simp, by go_simp⟩) rfl ?_
              rw [HP.out]
              have PK := (put72 (w := w9) (g := w.heap.size + 1) (f := w.heap.size + 1 + 1) (by omega) L9.out.out L9.out.flt (.int .i64 k) (.int .i64 o) (.int .i64 n) (.string s) (.slice va ns.length vc) (.slice a2 l3.length c2) (.int .i64 0) (.int .i64 0) (.int .i64 0)).2.2
              have KT := ((KS5.out.mono (T := fun b => b = go ∨ b = gf ∨ b = w.heap.size + 1 ∨ b = w.heap.size + 1 + 1) (fun i _ e => by rcases e with e | e; exact .inl e; exact .inr (.inl e))).trans (Keep.of (S := fun b => b = go ∨ b = gf ∨ b = w.heap.size + 1 ∨ b = w.heap.size + 1 + 1) B9.out) (fun _ _ h => h)).trans PK (fun i _ e => .inr (.inr e))
              have hwF := HWB.out.size
              have hZZ := HZB.out
              have hw3 := HW3.out.keep.size
              refine ⟨_, _, fv3, fun b => okR3 b ∨ (w0.heap.size ≤ b ∧ b < wB.heap.size ∧ b ≠ go ∧ b ≠ gf), ok3, rfl, ndS_mk.2 ⟨strsS_keep (fun b hb => ⟨.inr hb, (KT.block b (by omega) (fun (e : b = go ∨ b = gf ∨ b = w.heap.size + 1 ∨ b = w.heap.size + 1 + 1) => by omega)).trans (HW3.out.keep.block b hb.2.1 (HNR.out b (by omega)))⟩) HSB.out, kidsS_keep (fun b hb => ⟨.inl hb, KT.block b (HW3.out.new b hb).2.1 (fun (e : b = go ∨ b = gf ∨ b = w.heap.size + 1 ∨ b = w.heap.size + 1 + 1) => by have := (HW3.out.new b hb).1; omega)⟩) HN3.out⟩, Went.slot HRs.out HWB.out HW3.out KT (fun b (e : b = go ∨ b = gf ∨ b = w.heap.size + 1 ∨ b = w.heap.size + 1 + 1) => by omega) (fun b hb => ?_)⟩
              rcases hb with hb | hb
              · exact ⟨by have := (HW3.out.new b hb).1; omega, (HW3.out.new b hb).2⟩
              · exact ⟨by omega, by omega, fun e => by
                  rcases HW3.out.row b e with h | h
                  · exact HNR.out b (by omega) (.inr h)
                  · omega⟩

end Go.Proofs.YtmihckhflbepjaaDoor
