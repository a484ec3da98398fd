/- The document's node of an EFn. The document's function: its row, its ends. -/
import Derived.Test.YtenpldenhgpneaaDoorDqNode
namespace Go.Proofs.YtenpldenhgpneaaDoor
set_option linter.unusedSimpArgs false
set_option linter.unusedVariables false
open Go.RowKit

theorem two_nd (w : World) (x y : Array Value) : Blk w.heap.size 25 x ((w.alloc (.cells x 25)).alloc (.cells y 25)) ∧ Blk (w.heap.size + 1) 25 y ((w.alloc (.cells x 25)).alloc (.cells y 25)) ∧
    Below w.heap.size w ((w.alloc (.cells x 25)).alloc (.cells y 25)) ∧ w.heap.size + 1 < ((w.alloc (.cells x 25)).alloc (.cells y 25)).heap.size := by
  have b2 := blk_new (w.alloc (.cells x 25)) 25 y
  simp only [World.size_alloc] at b2
  exact ⟨blk_on (blk_new w 25 x) ((Below.refl _ _).alloc (Nat.le_refl _) (.cells y 25)), b2, ((Below.refl w.heap.size w).alloc (Nat.le_refl _) _).alloc (by simp) _, by simp⟩

set_option maxRecDepth 100000 in
set_option maxHeartbeats 4000000 in
theorem nodeD_8 (o n : Int) (z : ByteArray) (ns : List ByteArray) (ks : List Nd) (p : Int) (hFun : FunD o n z ns ks p) : NodeD (.mk 8 o n z ns ks p) := by
  intro s G fv wv at_ gl lo ov fs ok nv kv B w hS hD hV hlo hgl hN hB hBs hfB hokB hsm hc h32
  obtain ⟨h1, h2⟩ := ndIn_mk.1 hN.out
  obtain ⟨na, nc, rfl, _⟩ := strsIn_cases h1
  obtain ⟨ka, kc, rfl, _⟩ := kidsIn_cases h2
  obtain ⟨oa, oc, rfl⟩ := row_shape hV.out
  have hsl := blk_lt hS.out
  have hfl := hid (show ∀ g, fv.ownBlock = some g → g < w.heap.size from fun g hg => by obtain ⟨cur, hc⟩ := fnsS_lt hD.out.fn hg; exact blk_lt hc)
  have TF := two_nd w #[.int .i64 8, .int .i64 o, .int .i64 n, .string z, .slice na ns.length nc, .slice ka ks.length kc, .int .i64 p] #[.int .i64 0, .int .i64 0, .int .i64 0, .string ⟨#[]⟩, .slice none 0 0, .slice none 0 0, .int .i64 0]
  have SLQ := hid TF.2.1
  have LQ := hid TF.2.2.1
  have ZQ := hid TF.2.2.2
  have FC := hid (hFun s G fv wv at_ gl lo fs ok (.slice na ns.length nc) (.slice ka ks.length kc) B _ (hid (blk_on hS.out LQ.out)) (hid (dst_on hD.out LQ.out)) hgl (hid (ndIn_on (LQ.out.mono hB) _ _ _ hN.out)) (Nat.le_trans hB LQ.out.size) hBs hfB hokB hsm hc h32)
  obtain ⟨R, hR⟩ : ∃ R, resN gl (.mk 8 o n z ns ks p) lo fs = R := ⟨_, rfl⟩
  rw [hR] at FC ⊢
  clear TF h1 h2 hFun hR
  unfold ndV at FC ⊢
  simp only [Nd.kind, Nd.op, Nd.num, Nd.str, Nd.pl] at FC ⊢
  go_enter Tryd.func41, Tryd.ntmps41
  go_wp2_with fail
  refine FC.out.mono ?_
  intro r4 w4 h4
  generalize (w.alloc (.cells #[.int .i64 8, .int .i64 o, .int .i64 n, .string z, .slice na ns.length nc, .slice ka ks.length kc, .int .i64 p] 25)).alloc (.cells #[.int .i64 0, .int .i64 0, .int .i64 0, .string ⟨#[]⟩, .slice none 0 0, .slice none 0 0, .int .i64 0] 25) = wq at *
  have hzq := ZQ.out
  have nfd : ∀ b, w.heap.size ≤ b → ¬ FD s fv b := fun b hb e => by
    rcases e with e | e
    · omega
    · have := hfl.out b e; omega
  cases R with
  | bad p' e' =>
    obtain ⟨k1, o1, n1, z1, b1, m1, d1, b2, m2, d2, q1, rfl, hb⟩ := h4
    have S4 := hid (blk_keep SLQ.out hb.keep (nfd _ (by omega)))
    have HB := hid hb
    have hz4 := hb.keep.size
    obtain ⟨z40, z41, z42, z43, z44, z45, z46⟩ := box_cells (show Box (w.heap.size + 1) 0 0 0 ⟨#[]⟩ (.slice none 0 0) (.slice none 0 0) 0 w4 from S4.out)
    have g40 : w4.frozen? ⟨w.heap.size + 1, 0, none⟩ = false := blk_free S4.out 0
    have g41 : w4.frozen? ⟨w.heap.size + 1, 1, none⟩ = false := blk_free S4.out 1
    have g42 : w4.frozen? ⟨w.heap.size + 1, 2, none⟩ = false := blk_free S4.out 2
    have g43 : w4.frozen? ⟨w.heap.size + 1, 3, none⟩ = false := blk_free S4.out 3
    have g44 : w4.frozen? ⟨w.heap.size + 1, 4, none⟩ = false := blk_free S4.out 4
    have g45 : w4.frozen? ⟨w.heap.size + 1, 5, none⟩ = false := blk_free S4.out 5
    have g46 : w4.frozen? ⟨w.heap.size + 1, 6, none⟩ = false := blk_free S4.out 6
    clear hb nfd FC
    go_wp2_with fail
    have P := putD7 S4.out (.int .i64 k1) (.int .i64 o1) (.int .i64 n1) (.string z1) (.slice b1 m1 d1) (.slice b2 m2 d2) (.int .i64 q1)
    refine bodyPost_ret (ret_ndD rfl rfl P.1) rfl ?_
    exact ⟨_, _, _, _, _, _, _, _, _, _, _, rfl, HB.out.slot hS.out hD.out LQ.out P.2 (fun b e => by have : b = w.heap.size + 1 := e; omega)⟩
  | ok q =>
    obtain ⟨t', fs'⟩ := q
    obtain ⟨nv', kv', fv', ok', rfl, hNd, hW⟩ := h4
    obtain ⟨i1, j1, i2, j2, rfl, rfl⟩ := ndS_shape hNd
    have S4 := hid (blk_keep SLQ.out hW.keep (nfd _ (by omega)))
    have HW := hid hW
    have HND := hid hNd
    have hz4 := hW.keep.size
    unfold ndV
    obtain ⟨z40, z41, z42, z43, z44, z45, z46⟩ := box_cells (show Box (w.heap.size + 1) 0 0 0 ⟨#[]⟩ (.slice none 0 0) (.slice none 0 0) 0 w4 from S4.out)
    have g40 : w4.frozen? ⟨w.heap.size + 1, 0, none⟩ = false := blk_free S4.out 0
    have g41 : w4.frozen? ⟨w.heap.size + 1, 1, none⟩ = false := blk_free S4.out 1
    have g42 : w4.frozen? ⟨w.heap.size + 1, 2, none⟩ = false := blk_free S4.out 2
    have g43 : w4.frozen? ⟨w.heap.size + 1, 3, none⟩ = false := blk_free S4.out 3
    have g44 : w4.frozen? ⟨w.heap.size + 1, 4, none⟩ = false := blk_free S4.out 4
    have g45 : w4.frozen? ⟨w.heap.size + 1, 5, none⟩ = false := blk_free S4.out 5
    have g46 : w4.frozen? ⟨w.heap.size + 1, 6, none⟩ = false := blk_free S4.out 6
    clear hW hNd nfd FC
    go_wp2_with fail
    have P := putD7 S4.out (.int .i64 t'.kind) (.int .i64 t'.op) (.int .i64 t'.num) (.string t'.str) (.slice i1 t'.names.length j1) (.slice i2 t'.kids.length j2) (.int .i64 t'.pl)
    refine bodyPost_ret (ret_ndD rfl rfl P.1) rfl ?_
    refine ⟨_, _, fv', ok', rfl, ndS_keep (fun b hb => ⟨hb, P.2.block b (HW.out.ds.lt b hb) (fun e => ?_)⟩) _ _ _ HND.out, HW.out.slot hS.out hD.out LQ.out P.2 (fun b e => by have : b = w.heap.size + 1 := e; omega)⟩
    have : b = w.heap.size + 1 := e
    rcases HW.out.only b hb with h | h
    · have := hD.out.lt b h; omega
    · omega

end Go.Proofs.YtenpldenhgpneaaDoor

namespace Go.Proofs.YtenpldenhgpneaaDoor
set_option linter.unusedSimpArgs false
set_option linter.unusedVariables false
open Go.RowKit

theorem elFnD : Elem 28 45 3 40 := elem_of (z0 := .agg #[.int .i64 0, .int .i64 0, .slice none 0 0]) (by kernel_rfl) (by kernel_rfl) rfl
theorem dst_st {s : Nat} {G : Int} {fv wv : Value} {er at_ : Int} {gl : List ByteArray} {fs : List Fp} {ok : Nat → Prop} {a c : World} (hs : StD s G fv wv er at_ a) (h : DSt s fv wv gl fs ok a) (k : Keep (fun b => b = s) a c) : DSt s fv wv gl fs ok c :=
  ⟨fnsS_keep h.fn (fun b hb => ⟨hb, k.block b (h.lt b hb) (fun e => h.ns (e ▸ hb))⟩) (fun g hg => by
      obtain ⟨cur, hc⟩ := fnsS_lt h.fn hg
      obtain ⟨cs, _, _, h6⟩ := h.fn
      refine ⟨k.block g (blk_lt hc) (fun e => ?_), h6 g hg⟩
      rw [show g = s from e] at hc
      exact blkD_not hs (by decide) _ hc), txR_keep h.wh (fun g hg => by
      obtain ⟨cur, hc⟩ := row_lt h.wh hg
      refine k.block g (blk_lt hc) (fun e => ?_)
      rw [show g = s from e] at hc
      exact blkD_not hs (by decide) _ hc), fun b hb => Nat.lt_of_lt_of_le (h.lt b hb) k.size, h.ns⟩
/-- one function more -/
theorem dst_more {s g cp P L : Nat} {G : Int} {fv wv : Value} {er at_ : Int} {gl : List ByteArray} {fs : List Fp} {ok : Nat → Prop} {cs : List Value} {a w3 : World} (hs : StD s G fv wv er at_ a) (h : DSt s fv wv gl fs ok a) (hr : FRow ok a fs cs) (hgrow : a.grownBy w3 fv.ownBlock)
    (hown : w3.ownsRow 0 45 3 (.slice (some ⟨g, 0, none⟩) (fs.length + 1) cp) (fs.length + 1) (cs ++ [.int .i64 (P : Int), .int .i64 (L : Int), .slice none 0 0])) (hat : fv.ownBlock = some g ∨ a.heap.size ≤ g) :
    StD s G fv wv er at_ w3 ∧ StD s G (.slice (some ⟨g, 0, none⟩) (fs.length + 1) cp) wv er at_ (w3.setCell ⟨s, 1, none⟩ (.slice (some ⟨g, 0, none⟩) (fs.length + 1) cp)) ∧
    DSt s (.slice (some ⟨g, 0, none⟩) (fs.length + 1) cp) wv gl (fs ++ [(P, L, [])]) ok (w3.setCell ⟨s, 1, none⟩ (.slice (some ⟨g, 0, none⟩) (fs.length + 1) cp)) ∧ Keep (FD s fv) a (w3.setCell ⟨s, 1, none⟩ (.slice (some ⟨g, 0, none⟩) (fs.length + 1) cp)) := by
  have KG : Keep (fun b => fv.ownBlock = some b) a w3 := Keep.grown hgrow (fun k e => e)
  have K2 := Keep.set (S := fun b => b = s) rfl w3 1 (.slice (some ⟨g, 0, none⟩) (fs.length + 1) cp)
  have KA : Keep (FD s fv) a (w3.setCell ⟨s, 1, none⟩ (.slice (some ⟨g, 0, none⟩) (fs.length + 1) cp)) := (KG.mono (T := FD s fv) (fun i _ e => .inr e)).trans K2 (fun i _ e => .inl e)
  have hns : ¬ fv.ownBlock = some s := fun e => by
    obtain ⟨cur, hc⟩ := fnsS_lt h.fn e
    exact blkD_not hs (by decide) _ hc
  have S3 := blk_keep hs KG hns
  have hgs : g ≠ s := fun e => by
    obtain ⟨cur, hc⟩ := row_lt hown (g := g) rfl
    rw [e] at hc
    exact blkD_not S3 (by decide) _ hc
  obtain ⟨_, _, _, hnk⟩ := h.fn
  have ho : ∀ b, ok b → ¬ FD s fv b := fun b hb e => by
    rcases e with e | e
    · exact h.ns (e ▸ hb)
    · exact hnk b e hb
  refine ⟨S3, by simpa using blk_set S3 1 (.slice (some ⟨g, 0, none⟩) (fs.length + 1) cp), ⟨?_, txR_fd h.wh hs h.fn KA, fun b hb => Nat.lt_of_lt_of_le (h.lt b hb) KA.size, h.ns⟩, KA⟩
  refine ⟨cs ++ [.int .i64 (P : Int), .int .i64 (L : Int), .slice none 0 0], ?_, frow_snoc (x := (P, L, [])) (.inl ⟨none, 0, rfl, rfl⟩) (frow_keep (fun b hb => ⟨hb, KA.block b (h.lt b hb) (ho b hb)⟩) hr), fun g' hg' => ?_⟩
  · rw [List.length_append]
    exact row_keep hown (fun g' hg' => by
      simp [Value.ownBlock] at hg'
      subst hg'
      obtain ⟨cur, hc⟩ := row_lt hown (g := g) rfl
      exact K2.block g (blk_lt hc) hgs)
  · simp [Value.ownBlock] at hg'
    subst hg'
    rcases hat with h1 | h1
    · exact hnk _ h1
    · exact fun h2 => by have := h.lt _ h2; omega
/-- a body is laid -/
theorem WentD.body {s g8 c8 i P L : Nat} {G : Int} {fv wv kv : Value} {at_ : Int} {gl : List ByteArray} {fs3 : List Fp} {l b0 : List Nd} {ok ok3 : Nat → Prop} {w a : World} (h : WentD s G fv (.slice (some ⟨g8, 0, none⟩) fs3.length c8) wv at_ gl fs3 ok ok3 w a) (hk : KidsS ok3 a kv l) (hi : fs3[i]? = some (P, L, b0)) :
    WentD s G fv (.slice (some ⟨g8, 0, none⟩) fs3.length c8) wv at_ gl (fs3.set i (P, L, l)) ok ok3 w (a.setCell ⟨g8, i * 3 + 2, none⟩ kv) := by
  have K := Keep.set (S := fun b => b = g8) rfl a (i * 3 + 2) kv
  obtain ⟨cs, hown, hrow, hnk⟩ := h.ds.fn
  obtain ⟨cur8, hc8⟩ := row_lt hown (g := g8) rfl
  have hg8s : s ≠ g8 := fun e => by
    rw [← e] at hc8
    exact blkD_not h.st (by decide) _ hc8
  have hkb : ∀ b, ok3 b → ok3 b ∧ (a.setCell ⟨g8, i * 3 + 2, none⟩ kv).heap[b]? = a.heap[b]? := fun b hb => ⟨hb, K.block b (h.ds.lt b hb) (fun e => hnk g8 rfl (by rw [← (show b = g8 from e)]; exact hb))⟩
  refine ⟨blk_keep h.st K hg8s, ⟨⟨cs.set (i * 3 + 2) kv, ?_, frow_set (kidsS_keep hkb hk) (frow_keep hkb hrow) hi, fun g hg => hnk g hg⟩, txR_keep h.ds.wh (fun g hg => ?_), fun b hb => Nat.lt_of_lt_of_le (h.ds.lt b hb) K.size, h.ds.ns⟩, h.keep.trans K (fun j hj e => ?_), h.row, h.up, h.only, by rw [List.length_set]; exact h.few⟩
  · rw [List.length_set]
    exact row_set hown _ _
  · obtain ⟨cur, hc⟩ := row_lt h.ds.wh hg
    refine K.block g (blk_lt hc) (fun e => ?_)
    rw [show g = g8 from e] at hc
    exact blkD_not hc (by decide) _ hc8
  · have hj8 : j = g8 := e
    rcases h.row g8 rfl with h1 | h1
    · exact .inr (by rw [hj8]; exact h1)
    · omega
theorem BadD.body {s n j g8 L c8 : Nat} {G : Int} {fv wv u : Value} {p e : Int} {cs : List Value} {w a : World} (h : Keep (FD s fv) w a) (he : e ≠ 0) (g1 : StD s G (.slice (some ⟨g8, 0, none⟩) L c8) wv e p a) (g2 : n ≤ L) (g3 : L ≤ 1000000) (g4 : a.ownsRow 0 45 3 (.slice (some ⟨g8, 0, none⟩) L c8) L cs) (g5 : fv.ownBlock = some g8 ∨ w.heap.size ≤ g8) : BadD s G fv wv n p e w (a.setCell ⟨g8, j, none⟩ u) := by
  have K := Keep.set (S := fun b => b = g8) rfl a j u
  obtain ⟨cur8, hc8⟩ := row_lt g4 (g := g8) rfl
  have hg8s : s ≠ g8 := fun e => by
    rw [← e] at hc8
    exact blkD_not g1 (by decide) _ hc8
  refine ⟨he, h.trans K (fun i hi e => ?_), .slice (some ⟨g8, 0, none⟩) L c8, L, cs.set j u, blk_keep g1 K hg8s, g2, g3, row_set g4 j u, fun g hg => ?_⟩
  · have hi8 : i = g8 := e
    rcases g5 with h1 | h1
    · exact .inr (by rw [hi8]; exact h1)
    · omega
  · simp [Value.ownBlock] at hg
    subst hg
    exact g5
/-- what came ahead of the body -/
theorem WentD.pre {s : Nat} {G : Int} {fv fv1 fv3 wv : Value} {at_ : Int} {gl : List ByteArray} {fs3 : List Fp} {ok ok3 : Nat → Prop} {w a c : World} (k : Keep (FD s fv) w a) (hr : ∀ g, fv1.ownBlock = some g → fv.ownBlock = some g ∨ w.heap.size ≤ g) (h : WentD s G fv1 fv3 wv at_ gl fs3 ok ok3 a c) : WentD s G fv fv3 wv at_ gl fs3 ok ok3 w c := by
  have z := k.size
  refine ⟨h.st, h.ds, fd_trans k h.keep hr, fun g hg => ?_, h.up, fun b hb => ?_, h.few⟩
  · rcases h.row g hg with h1 | h1
    · exact hr g h1
    · exact .inr (by omega)
  · rcases h.only b hb with h1 | h1
    · exact .inl h1
    · exact .inr (by omega)
/-- a node's block of one's own is written behind -/
theorem WentD.past {s b0 : Nat} {G : Int} {fv fv' wv : Value} {at_ : Int} {gl : List ByteArray} {fs' : List Fp} {ok ok' : Nat → Prop} {cs : Array Value} {w a c : World} (h : WentD s G fv fv' wv at_ gl fs' ok ok' w a) (k : Keep (fun b => b = b0) a c) (hb : Blk b0 25 cs a) (h0 : w.heap.size ≤ b0) (hn : ¬ ok' b0) : WentD s G fv fv' wv at_ gl fs' ok ok' w c := by
  refine ⟨blk_keep h.st k (fun e => ?_), ⟨fnsS_keep h.ds.fn (fun b hb' => ⟨hb', k.block b (h.ds.lt b hb') (fun e => hn (by rw [← (show b = b0 from e)]; exact hb'))⟩) (fun g hg => ?_), txR_keep h.ds.wh (fun g hg => ?_), fun b hb' => Nat.lt_of_lt_of_le (h.ds.lt b hb') k.size, h.ds.ns⟩, h.keep.trans k (fun i hi e => by have : i = b0 := e; omega), h.row, h.up, h.only, h.few⟩
  · rw [← (show s = b0 from e)] at hb
    exact blkD_not h.st (by decide) _ hb
  · obtain ⟨cur, hc⟩ := fnsS_lt h.ds.fn hg
    obtain ⟨cs', _, _, h6⟩ := h.ds.fn
    refine ⟨k.block g (blk_lt hc) (fun e => ?_), h6 g hg⟩
    rw [show g = b0 from e] at hc
    exact blkD_not hb (by decide) _ hc
  · obtain ⟨cur, hc⟩ := row_lt h.ds.wh hg
    refine k.block g (blk_lt hc) (fun e => ?_)
    rw [show g = b0 from e] at hc
    exact blkD_not hb (by decide) _ hc
theorem BadD.past {s n b0 : Nat} {G : Int} {fv wv : Value} {p e : Int} {cs : Array Value} {w a c : World} (h : BadD s G fv wv n p e w a) (k : Keep (fun b => b = b0) a c) (hb : Blk b0 25 cs a) (h0 : w.heap.size ≤ b0) : BadD s G fv wv n p e w c := by
  obtain ⟨fv', L, cs', g1, g2, g3, g4, g5⟩ := h.left
  refine ⟨h.er, h.keep.trans k (fun i hi e => by have : i = b0 := e; omega), fv', L, cs', blk_keep g1 k (fun e => ?_), g2, g3, row_keep g4 (fun g hg => ?_), g5⟩
  · rw [← (show s = b0 from e)] at hb
    exact blkD_not g1 (by decide) _ hb
  · obtain ⟨cur, hc⟩ := row_lt g4 hg
    refine k.block g (blk_lt hc) (fun e => ?_)
    rw [show g = b0 from e] at hc
    exact blkD_not hb (by decide) _ hc
theorem lets_err {s : Nat} {G : Int} {fv wv : Value} {er at_ : Int} (w : World) (h : StD s G fv wv er at_ w) (he : er ≠ 0) (ka : Option Addr) (kn kc : Nat) (oa : Option Addr) (on oc : Nat) (hk : kn ≤ 1000000) :
    Calls Tryd.prog 23 #[.pointer (some ⟨s, 0, none⟩), .slice oa on oc, .slice ka kn kc] w fun r w' => r = .returned (.slice oa on oc) ∧ w' = w := by
  obtain ⟨c1, c2, c3, c4⟩ := stD_cells h
  have hne : (er == 0) = false := by simpa using he
  clear h he
  go_enter Tryd.func23, Tryd.ntmps23
  go_wp2_with fail
  go_loopw [1, 7] (fun u i wr => u = .slice oa on oc ∧ i = .int .i64 0 ∧ wr = w) (fun _ _ _ => 0)
  case atStart => exact ⟨rfl, rfl, rfl⟩
  case round =>
    obtain ⟨rfl, rfl, rfl⟩ := hrel
    by_cases h0 : 0 < kn
    · have d : decide ((0 : Int) < (kn : Int)) = true := decide_eq_true (by omega)
      go_wp2_with fail
      go_ret
      exact ⟨rfl, rfl⟩
    · have : kn = 0 := by omega
      subst this
      go_wp2_with fail
      go_ret
      exact ⟨rfl, rfl⟩

end Go.Proofs.YtenpldenhgpneaaDoor
