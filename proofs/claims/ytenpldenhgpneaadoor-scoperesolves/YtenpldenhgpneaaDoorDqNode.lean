/- The document's node. -/
import Derived.Test.YtenpldenhgpneaaDoorJoint8
namespace Go.Proofs.YtenpldenhgpneaaDoor
set_option linter.unusedSimpArgs false
set_option linter.unusedVariables false
open Go.RowKit

theorem dst_on {s : Nat} {fv wv : Value} {gl : List ByteArray} {fs : List Fp} {ok : Nat → Prop} {a c : World} (h : DSt s fv wv gl fs ok a) (k : Below a.heap.size a c) : DSt s fv wv gl fs ok c :=
  ⟨fnsS_keep h.fn (fun b hb => ⟨hb, k.block b (h.lt b hb)⟩) (fun g hg => by
      obtain ⟨cur, hc⟩ := fnsS_lt h.fn hg
      obtain ⟨cs, _, _, h6⟩ := h.fn
      exact ⟨k.block g (blk_lt hc), h6 g hg⟩), txR_on h.wh k, fun b hb => Nat.lt_of_lt_of_le (h.lt b hb) k.size, h.ns⟩
theorem nodesOut_keep {s : Nat} {G : Int} {fv wv : Value} {at_ : Int} {gl : List ByteArray} {nf : Nat} {ok : Nat → Prop} {w : World} {x : Rz (List Nd × List Fp)} {r : Ending} {w' : World} (h : NodesOutD s G fv wv at_ gl nf ok w x r w') : Keep (FD s fv) w w' := by
  cases x with
  | ok q => obtain ⟨l, fs'⟩ := q; obtain ⟨_, _, _, _, _, h⟩ := h; exact h.keep
  | bad p e => obtain ⟨_, _, _, _, h⟩ := h; exact h.keep
theorem nodesOut_shape {s : Nat} {G : Int} {fv wv : Value} {at_ : Int} {gl : List ByteArray} {nf : Nat} {ok : Nat → Prop} {w : World} {x : Rz (List Nd × List Fp)} {r : Ending} {w' : World} (h : NodesOutD s G fv wv at_ gl nf ok w x r w') : ∃ a n c, r = .returned (.slice a n c) := by
  cases x with
  | ok q =>
    obtain ⟨l, fs'⟩ := q
    obtain ⟨_, _, _, rfl, hk, _⟩ := h
    obtain ⟨a, c, rfl⟩ := kidsS_shape hk
    exact ⟨_, _, _, rfl⟩
  | bad p e => obtain ⟨a, n, c, e, _⟩ := h; exact ⟨a, n, c, e⟩
theorem ret_ndD {fn : Func} {t : Tmp} (h : fn.results = #[.cell t 25]) {tmps : Array Value} {g : Nat} {w : World} {v0 v1 v2 v3 v4 v5 v6 : Value} (ht : tmps.getD t undef = .pointer (some ⟨g, 0, none⟩)) (hb : Blk g 25 #[v0, v1, v2, v3, v4, v5, v6] w) :
    (results fn tmps).run Tryd.prog w = .ok (.agg #[v0, v1, v2, v3, v4, v5, v6]) w := by
  rw [Array.getD_eq_getD_getElem?] at ht
  have c0 := blk_cell hb 0
  have c1 := blk_cell hb 1
  have c2 := blk_cell hb 2
  have c3 := blk_cell hb 3
  have c4 := blk_cell hb 4
  have c5 := blk_cell hb 5
  have c6 := blk_cell hb 6
  simp at c0 c1 c2 c3 c4 c5 c6
  simp [results, h, ht, go_sem, asAddr, c0, c1, c2, c3, c4, c5, c6]
theorem putD7 {g : Nat} {u0 u1 u2 u3 u4 u5 u6 : Value} {w : World} (hg : Blk g 25 #[u0, u1, u2, u3, u4, u5, u6] w) (v0 v1 v2 v3 v4 v5 v6 : Value) :
    Blk g 25 #[v0, v1, v2, v3, v4, v5, v6] (((((((w.setCell ⟨g, 0, none⟩ v0).setCell ⟨g, 1, none⟩ v1).setCell ⟨g, 2, none⟩ v2).setCell ⟨g, 3, none⟩ v3).setCell ⟨g, 4, none⟩ v4).setCell ⟨g, 5, none⟩ v5).setCell ⟨g, 6, none⟩ v6) ∧ Keep (fun b => b = g) w (((((((w.setCell ⟨g, 0, none⟩ v0).setCell ⟨g, 1, none⟩ v1).setCell ⟨g, 2, none⟩ v2).setCell ⟨g, 3, none⟩ v3).setCell ⟨g, 4, none⟩ v4).setCell ⟨g, 5, none⟩ v5).setCell ⟨g, 6, none⟩ v6) := by
  refine ⟨by simpa using blk_set (blk_set (blk_set (blk_set (blk_set (blk_set (blk_set hg 0 v0) 1 v1) 2 v2) 3 v3) 4 v4) 5 v5) 6 v6, ?_⟩
  have st : ∀ (w : World) (i : Nat) (v : Value), Keep (fun b => b = g) w (w.setCell ⟨g, i, none⟩ v) := fun w i v => Keep.set (S := fun b => b = g) rfl w i v
  have tr : ∀ {a b c : World}, Keep (fun b => b = g) a b → Keep (fun b => b = g) b c → Keep (fun b => b = g) a c := fun h k => h.trans k (fun _ _ h => h)
  exact tr (tr (tr (tr (tr (tr (st _ 0 v0) (st _ 1 v1)) (st _ 2 v2)) (st _ 3 v3)) (st _ 4 v4)) (st _ 5 v5)) (st _ 6 v6)
theorem strsIn_S {ok : Nat → Prop} {B : Nat} {v : Value} {l : List ByteArray} {w : World} (h : StrsIn B v l w) (hb : ∀ b, b < B → ok b) : StrsS ok v l w := by
  rcases h with h | ⟨b, off, cap, h1, h2, h3, h4⟩
  · exact .inl h
  · exact .inr ⟨b, off, cap, h1, hb b h2, h3, h4⟩
/-- blocks of one's own, laid ahead, are written behind -/
theorem WentD.slot {s : Nat} {G : Int} {fv fv' wv : Value} {at_ : Int} {gl : List ByteArray} {fs fs' : List Fp} {ok ok' T : Nat → Prop} {w wq a c : World} (hS : StD s G fv wv 0 at_ w) (hD : DSt s fv wv gl fs ok w) (k1 : Below w.heap.size w wq) (h : WentD s G fv fv' wv at_ gl fs' ok ok' wq a) (k : Keep T a c) (hT : ∀ b, T b → w.heap.size ≤ b ∧ b < wq.heap.size) : WentD s G fv fv' wv at_ gl fs' ok ok' w c := by
  have hz1 := k1.size
  have hz := h.keep.size
  have hs := blk_lt hS
  have hn : ∀ b, ok' b → ¬ T b := fun b hb e => by
    have := hT b e
    rcases h.only b hb with h1 | h1
    · have := hD.lt b h1; omega
    · omega
  refine ⟨blk_keep h.st k (fun e => by have := (hT _ e).1; omega), ⟨fnsS_keep h.ds.fn (fun b hb => ⟨hb, k.block b (h.ds.lt b hb) (hn b hb)⟩) (fun g hg => ?_), txR_keep h.ds.wh (fun g hg => ?_), fun b hb => Nat.lt_of_lt_of_le (h.ds.lt b hb) k.size, h.ds.ns⟩, ((Keep.of (S := FD s fv) k1).trans h.keep (fun _ _ h => h)).trans k (fun i hi e => by have := (hT i e).1; omega), fun g hg => ?_, h.up, fun b hb => ?_, h.few⟩
  · obtain ⟨cur, hc⟩ := fnsS_lt h.ds.fn hg
    obtain ⟨cs, _, _, h6⟩ := h.ds.fn
    refine ⟨k.block g (blk_lt hc) (fun e => ?_), h6 g hg⟩
    have := hT g e
    rcases h.row g hg with h1 | h1
    · obtain ⟨cur', hc'⟩ := fnsS_lt hD.fn h1
      have := blk_lt hc'; omega
    · omega
  · obtain ⟨cur, hc⟩ := row_lt h.ds.wh hg
    refine k.block g (blk_lt hc) (fun e => ?_)
    have := hT g e
    obtain ⟨cur', hc'⟩ := row_lt hD.wh hg
    have := blk_lt hc'
    omega
  · rcases h.row g hg with h1 | h1
    · exact .inl h1
    · exact .inr (by omega)
  · rcases h.only b hb with h1 | h1
    · exact .inl h1
    · exact .inr (by omega)
theorem BadD.slot {s n : Nat} {G : Int} {fv wv : Value} {at_ p e : Int} {gl : List ByteArray} {fs : List Fp} {ok T : Nat → Prop} {w wq a c : World} (hS : StD s G fv wv 0 at_ w) (hD : DSt s fv wv gl fs ok w) (k1 : Below w.heap.size w wq) (h : BadD s G fv wv n p e wq a) (k : Keep T a c) (hT : ∀ b, T b → w.heap.size ≤ b ∧ b < wq.heap.size) : BadD s G fv wv n p e w c := by
  have hz1 := k1.size
  have hs := blk_lt hS
  obtain ⟨fv', L, cs, g1, g2, g3, g4, g5⟩ := h.left
  refine ⟨h.er, ((Keep.of (S := FD s fv) k1).trans h.keep (fun _ _ h => h)).trans k (fun i hi e => by have := (hT i e).1; omega), fv', L, cs, blk_keep g1 k (fun e => by have := (hT _ e).1; omega), g2, g3, row_keep g4 (fun g hg => ?_), fun g hg => ?_⟩
  · obtain ⟨cur, hc⟩ := row_lt g4 hg
    refine k.block g (blk_lt hc) (fun e => ?_)
    have := hT g e
    rcases g5 g hg with h1 | h1
    · obtain ⟨cur', hc'⟩ := fnsS_lt hD.fn h1
      have := blk_lt hc'; omega
    · omega
  · rcases g5 g hg with h1 | h1
    · exact .inl h1
    · exact .inr (by omega)
/-- the end of a node: what its kids come to -/
theorem nodeD_end {s : Nat} {G : Int} {fv wv : Value} {at_ : Int} {gl : List ByteArray} {fs : List Fp} {ok : Nat → Prop} {w wq w4 w5 : World} {x : Rz (List Nd × List Fp)} {y : Rz (Nd × List Fp)} {K O N : Int} {S : ByteArray} {nv : Value} {ns : List ByteArray} {ka : Option Addr} {kn kc : Nat}
    (hxy : y = x.bind fun q => .ok (.mk K O N S ns q.1 0, q.2)) (hshape : ∃ a n c, nv = .slice a n c) (hns : ∀ c : World, Below w.heap.size w c → StrsS ok nv ns c)
    (hS : StD s G fv wv 0 at_ w) (hD : DSt s fv wv gl fs ok w) (hsl : s < w.heap.size) (LQ : Below w.heap.size w wq) (ZQ : w.heap.size + 1 + 1 < wq.heap.size) (hfl : ∀ g, fv.ownBlock = some g → g < w.heap.size) (KP : Keep (fun b => b = w.heap.size + 1 ∨ b = w.heap.size + 1 + 1) w4 w5)
    (h : NodesOutD s G fv wv at_ gl fs.length ok wq x (.returned (.slice ka kn kc)) w4) : NodeOutD s G fv wv at_ gl fs.length ok w y (.returned (.agg #[.int .i64 K, .int .i64 O, .int .i64 N, .string S, nv, .slice ka kn kc, .int .i64 0])) w5 := by
  have hT : ∀ b, (b = w.heap.size + 1 ∨ b = w.heap.size + 1 + 1) → w.heap.size ≤ b ∧ b < wq.heap.size := fun b e => by omega
  cases x with
  | bad p e =>
    obtain ⟨a1, n1, c1, er, hb⟩ := h
    obtain ⟨ba, bn, bc, rfl⟩ := hshape
    rw [hxy]
    exact ⟨K, O, N, S, ba, bn, bc, ka, kn, kc, 0, rfl, hb.slot hS hD LQ KP hT⟩
  | ok q =>
    obtain ⟨l, fs'⟩ := q
    obtain ⟨kv, fv', ok', er, hk, hw⟩ := h
    injection er with er
    subst er
    rw [hxy]
    have W := hw.slot hS hD LQ KP hT
    have hn : ∀ b, ok' b → ¬ (b = w.heap.size + 1 ∨ b = w.heap.size + 1 + 1) := fun b hb e => by
      have := hT b e
      rcases hw.only b hb with h1 | h1
      · have := hD.lt b h1; omega
      · omega
    refine ⟨nv, _, fv', ok', rfl, ndS_mk.2 ⟨?_, kidsS_keep (fun b hb => ⟨hb, KP.block b (hw.ds.lt b hb) (hn b hb)⟩) hk⟩, W⟩
    refine strsS_keep (fun b hb => ⟨hw.up b hb, ?_⟩) (hns w (Below.refl _ _))
    exact W.keep.block b (hD.lt b hb) (fun e => by
      rcases e with e | e
      · exact hD.ns (e ▸ hb)
      · obtain ⟨_, _, _, h6⟩ := hD.fn
        exact h6 b e hb)

/-- the document's function of an EFn -/
def FunD (o n : Int) (s8 : ByteArray) (ns : List ByteArray) (ks : List Nd) (p : Int) : Prop := ∀ (s : Nat) (G : Int) (fv wv : Value) (at_ : Int) (gl lo : List ByteArray) (fs : List Fp) (ok : Nat → Prop) (nv kv : Value) (B : Nat) (w : World),
  Hid (StD s G fv wv 0 at_ w) → Hid (DSt s fv wv gl fs ok w) → gl.length ≤ 24 → Hid (NdIn B w (.mk 8 o n s8 ns ks p) nv kv) → B ≤ w.heap.size → B ≤ s → Hid (∀ g, fv.ownBlock = some g → B ≤ g) → Hid (∀ b, b < B → ok b) → smallN (.mk 8 o n s8 ns ks p) = true → countN (.mk 8 o n s8 ns ks p) ≤ 1000000 → fs.length ≤ 32 →
  Calls Tryd.prog 64 #[.pointer (some ⟨s, 0, none⟩), ndV (.mk 8 o n s8 ns ks p) nv kv] w (NodeOutD s G fv wv at_ gl fs.length ok w (resN gl (.mk 8 o n s8 ns ks p) lo fs))
theorem three_nd (w : World) (x y z : Array Value) : Blk w.heap.size 25 x (((w.alloc (.cells x 25)).alloc (.cells y 25)).alloc (.cells z 25)) ∧ Blk (w.heap.size + 1) 25 y (((w.alloc (.cells x 25)).alloc (.cells y 25)).alloc (.cells z 25)) ∧ Blk (w.heap.size + 1 + 1) 25 z (((w.alloc (.cells x 25)).alloc (.cells y 25)).alloc (.cells z 25)) ∧
    Below w.heap.size w (((w.alloc (.cells x 25)).alloc (.cells y 25)).alloc (.cells z 25)) ∧ w.heap.size + 1 + 1 < (((w.alloc (.cells x 25)).alloc (.cells y 25)).alloc (.cells z 25)).heap.size := by
  have b2 := blk_new (w.alloc (.cells x 25)) 25 y
  have b3 := blk_new ((w.alloc (.cells x 25)).alloc (.cells y 25)) 25 z
  simp only [World.size_alloc] at b2 b3
  have A2 := (Below.refl (w.alloc (.cells x 25)).heap.size _).alloc (Nat.le_refl _) (.cells y 25)
  have A3 := (Below.refl ((w.alloc (.cells x 25)).alloc (.cells y 25)).heap.size _).alloc (Nat.le_refl _) (.cells z 25)
  exact ⟨blk_on (blk_on (blk_new w 25 x) A2) A3, blk_on b2 A3, b3, (((Below.refl w.heap.size w).alloc (Nat.le_refl _) _).alloc (by simp) _).alloc (by simp; omega) _, by simp⟩
theorem resN_not8 (gl : List ByteArray) {k : Int} (o n : Int) (s : ByteArray) (ns : List ByteArray) (ks : List Nd) (p : Int) (lo : List ByteArray) (fs : List Fp) (h : ¬ k = 8) : resN gl (.mk k o n s ns ks p) lo fs = if isNm k then (match findP gl lo k s with
      | none => .bad p 14
      | some (k', i) => (resL gl ks lo fs).bind fun q => .ok (.mk k' 0 i ⟨#[]⟩ [] q.1 0, q.2)) else (resL gl ks lo fs).bind fun q => .ok (.mk k o n s ns q.1 0, q.2) := by
  rw [resN, if_neg h]
  rfl

set_option maxRecDepth 100000 in
set_option maxHeartbeats 8000000 in
theorem nodeD_of (k o n : Int) (z : ByteArray) (ns : List ByteArray) (ks : List Nd) (p : Int) (hKids0 : NodesD ks) (hFun0 : k = 8 → NodeD (.mk k o n z ns ks p)) : NodeD (.mk k o n z ns ks p) := by
  by_cases h8' : k = 8
  · exact hFun0 h8'
  intro s G fv wv at_ gl lo ov fs ok nv kv B w hS hD hV hlo hgl hN hB hBs hfB hokB hsm hc h32
  obtain ⟨hs1, hns1, hnz, hks0⟩ := small_mk hsm
  have hck : countL ks ≤ 1000000 := by rw [countN] at hc; omega
  have hlen := countL_len ks
  obtain ⟨h1, h2⟩ := ndIn_mk.1 hN.out
  obtain ⟨na, nc, rfl, _⟩ := strsIn_cases h1
  obtain ⟨ka, kc, rfl, _⟩ := kidsIn_cases h2
  obtain ⟨oa, oc, rfl⟩ := row_shape hV.out
  have hK := hid h2
  have hNm := hid h1
  have hKids := hid hKids0
  have hks := hid hks0
  have hsl := blk_lt hS.out
  have hfl := hid (show ∀ g, fv.ownBlock = some g → g < w.heap.size from fun g hg => by obtain ⟨cur, hc⟩ := fnsS_lt hD.out.fn hg; exact blk_lt hc)
  have hzl : z.size ≤ 1000000 := by omega
  have h8 : ¬ k = 8 := h8'
  clear h1 h2 hKids0 hFun0 hks0 h8'
  unfold ndV
  simp only [Nd.kind, Nd.op, Nd.num, Nd.str, Nd.pl]
  rcases Classical.em True with _ | h
  · have q8 : (k == 8) = false := by simpa using h8
    have HRE := hid (resN_not8 gl o n z ns ks p lo fs h8)
    clear h8
    by_cases hnm : isNm k = true
    · have HNM := hid hnm
      have hwaN : isNm k = true := hnm
      have ways : (k == 5) = true ∨ ((k == 5) = false ∧ (k == 21) = true) ∨ ((k == 5) = false ∧ (k == 21) = false ∧ (k == 22) = true) := by
        unfold isNm at hwaN
        cases h5 : (k == 5) <;> cases h21 : (k == 21) <;> cases h22 : (k == 22) <;> simp [h5, h21, h22] at hwaN ⊢
      obtain ⟨wa, wc, hwv⟩ := row_shape hD.out.wh
      obtain ⟨c1, c2, c3, c4⟩ := stD_cells hS.out
      rw [hwv] at c2
      have HWV := hid hwv
      have hsl1 : s < w.heap.size + 1 := by omega
      have hsl2 : s < w.heap.size + 1 + 1 := by omega
      have TA := three_nd w #[.int .i64 k, .int .i64 o, .int .i64 n, .string z, .slice na ns.length nc, .slice ka ks.length kc, .int .i64 p] #[.int .i64 0, .int .i64 0, .int .i64 0, .string ⟨#[]⟩, .slice none 0 0, .slice none 0 0, .int .i64 0] #[.int .i64 k, .int .i64 o, .int .i64 n, .string z, .slice na ns.length nc, .slice none 0 0, .int .i64 0]
      have HFL := hid (rfindD_calls _ (txR_on hV.out TA.2.2.2.1) z (by omega))
      clear TA hwaN hwv
      cases hil : idxN lo z with
      | some i =>
        rw [show idxV lo z = (i : Int) by unfold idxV; rw [hil]] at HFL
        have dI : decide ((i : Int) < 0) = false := decide_eq_false (by omega)
        rcases ways with q5 | ways
        · have HFP := hid (show findP gl lo k z = some (18, i) by unfold findP; rw [hil]; simp only; rw [if_pos (by simpa using q5)])
          have q5n : (k != 5) = false := by simp; simpa using q5
          clear hil hnm
          have HRA := hid (show resN gl (.mk k o n z ns ks p) lo fs = (resL gl ks lo fs).bind fun q => .ok (.mk 18 0 (i : Int) ⟨#[]⟩ [] q.1 0, q.2) by rw [HRE.out, if_pos HNM.out, HFP.out])
          have TF := three_nd w #[.int .i64 k, .int .i64 o, .int .i64 n, .string z, .slice na ns.length nc, .slice ka ks.length kc, .int .i64 p] #[.int .i64 0, .int .i64 0, .int .i64 0, .string ⟨#[]⟩, .slice none 0 0, .slice none 0 0, .int .i64 0] #[.int .i64 18, .int .i64 0, .int .i64 (i : Int), .string ⟨#[]⟩, .slice none 0 0, .slice none 0 0, .int .i64 0]
          have BXQ := hid TF.1
          have SLQ := hid TF.2.1
          have OUQ := hid TF.2.2.1
          have LQ := hid TF.2.2.2.1
          have ZQ := hid TF.2.2.2.2
          clear TF
          go_enter Tryd.func41, Tryd.ntmps41
          go_wp2_with fail
          refine HFL.out.mono ?_
          rintro e1 w1 ⟨rfl, rfl⟩
          go_wp2_with fail
          generalize (((w.alloc (.cells #[.int .i64 k, .int .i64 o, .int .i64 n, .string z, .slice na ns.length nc, .slice ka ks.length kc, .int .i64 p] 25)).alloc (.cells #[.int .i64 0, .int .i64 0, .int .i64 0, .string ⟨#[]⟩, .slice none 0 0, .slice none 0 0, .int .i64 0] 25)).alloc (.cells #[.int .i64 18, .int .i64 0, .int .i64 (i : Int), .string ⟨#[]⟩, .slice none 0 0, .slice none 0 0, .int .i64 0] 25)) = wq at *
          have HNC := hid (hKids.out s G fv wv at_ gl lo (.slice oa lo.length oc) fs ok (.slice ka ks.length kc) B wq (hid (blk_on hS.out LQ.out)) (hid (dst_on hD.out LQ.out)) (hid (txR_on hV.out LQ.out)) hlo hgl (hid (kidsIn_on (LQ.out.mono hB) hK.out)) (Nat.le_trans hB LQ.out.size) hBs hfB hokB hks.out hck h32)
          refine HNC.out.mono ?_
          intro r4 w4 h4
          have HQ := hid h4
          have hk4 : Keep (FD s fv) wq w4 := nodesOut_keep h4
          have nfd : ∀ b, w.heap.size ≤ b → ¬ FD s fv b := fun b hb e => by
            rcases e with e | e
            · omega
            · have := hfl.out b e; omega
          have B4 := hid (blk_keep BXQ.out hk4 (nfd _ (by omega)))
          have S4 := hid (blk_keep SLQ.out hk4 (nfd _ (by omega)))
          have O4 := hid (blk_keep OUQ.out hk4 (nfd _ (by omega)))
          have hz4 := hk4.size
          obtain ⟨ka4, kn4, kc4, er4⟩ : ∃ a n c, r4 = .returned (.slice a n c) := nodesOut_shape h4
          subst er4
          have f45 : w4.frozen? ⟨w.heap.size + 1 + 1, 5, none⟩ = false := blk_free O4.out 5
          obtain ⟨o40, o41, o42, o43, o44, o45, o46⟩ := box_cells (show Box (w.heap.size + 1 + 1) 18 0 (i : Int) ⟨#[]⟩ (.slice none 0 0) (.slice none 0 0) 0 w4 from O4.out)
          obtain ⟨z40, z41, z42, z43, z44, z45, z46⟩ := box_cells (show Box (w.heap.size + 1) 0 0 0 ⟨#[]⟩ (.slice none 0 0) (.slice none 0 0) 0 w4 from S4.out)
          have g40 : w4.frozen? ⟨w.heap.size + 1, 0, none⟩ = false := blk_free S4.out 0
          have g41 : w4.frozen? ⟨w.heap.size + 1, 1, none⟩ = false := blk_free S4.out 1
          have g42 : w4.frozen? ⟨w.heap.size + 1, 2, none⟩ = false := blk_free S4.out 2
          have g43 : w4.frozen? ⟨w.heap.size + 1, 3, none⟩ = false := blk_free S4.out 3
          have g44 : w4.frozen? ⟨w.heap.size + 1, 4, none⟩ = false := blk_free S4.out 4
          have g45 : w4.frozen? ⟨w.heap.size + 1, 5, none⟩ = false := blk_free S4.out 5
          have g46 : w4.frozen? ⟨w.heap.size + 1, 6, none⟩ = false := blk_free S4.out 6
          clear h4 hk4 nfd
          go_wp2_with fail
          have K5 := Keep.set (S := fun b => b = w.heap.size + 1 + 1) rfl w4 5 (.slice ka4 kn4 kc4)
          have P := putD7 (blk_keep S4.out K5 (by omega)) (.int .i64 18) (.int .i64 0) (.int .i64 (i : Int)) (.string ⟨#[]⟩) (.slice none 0 0) (.slice ka4 kn4 kc4) (.int .i64 0)
          refine bodyPost_ret (ret_ndD rfl rfl P.1) rfl ?_
          have KP := (K5.mono (T := fun b => b = w.heap.size + 1 ∨ b = w.heap.size + 1 + 1) (fun b _ e => .inr e)).trans (P.2.mono (T := fun b => b = w.heap.size + 1 ∨ b = w.heap.size + 1 + 1) (fun b _ e => .inl e)) (fun _ _ h => h)
          exact nodeD_end HRA.out ⟨_, _, _, rfl⟩ (fun c hc => .inl ⟨none, 0, rfl, rfl⟩) hS.out hD.out hsl LQ.out ZQ.out hfl.out KP HQ.out
        · have HFP := hid (show findP gl lo k z = some (33, i) by unfold findP; rw [hil]; simp only; rw [if_neg (by rcases ways with h | h <;> simpa using h.1)])
          have q5n : (k != 5) = true := by rcases ways with h | h <;> simpa using h.1
          clear hil hnm
          rcases ways with ⟨q5, q21⟩ | ⟨q5, q21, q22⟩
          all_goals
            have HRA := hid (show resN gl (.mk k o n z ns ks p) lo fs = (resL gl ks lo fs).bind fun q => .ok (.mk 33 0 (i : Int) ⟨#[]⟩ [] q.1 0, q.2) by rw [HRE.out, if_pos HNM.out, HFP.out])
            have TF := three_nd w #[.int .i64 k, .int .i64 o, .int .i64 n, .string z, .slice na ns.length nc, .slice ka ks.length kc, .int .i64 p] #[.int .i64 0, .int .i64 0, .int .i64 0, .string ⟨#[]⟩, .slice none 0 0, .slice none 0 0, .int .i64 0] #[.int .i64 33, .int .i64 0, .int .i64 (i : Int), .string ⟨#[]⟩, .slice none 0 0, .slice none 0 0, .int .i64 0]
            have BXQ := hid TF.1
            have SLQ := hid TF.2.1
            have OUQ := hid TF.2.2.1
            have LQ := hid TF.2.2.2.1
            have ZQ := hid TF.2.2.2.2
            clear TF
            go_enter Tryd.func41, Tryd.ntmps41
            go_wp2_with fail
            refine HFL.out.mono ?_
            rintro e1 w1 ⟨rfl, rfl⟩
            go_wp2_with fail
            generalize (((w.alloc (.cells #[.int .i64 k, .int .i64 o, .int .i64 n, .string z, .slice na ns.length nc, .slice ka ks.length kc, .int .i64 p] 25)).alloc (.cells #[.int .i64 0, .int .i64 0, .int .i64 0, .string ⟨#[]⟩, .slice none 0 0, .slice none 0 0, .int .i64 0] 25)).alloc (.cells #[.int .i64 33, .int .i64 0, .int .i64 (i : Int), .string ⟨#[]⟩, .slice none 0 0, .slice none 0 0, .int .i64 0] 25)) = wq at *
            have HNC := hid (hKids.out s G fv wv at_ gl lo (.slice oa lo.length oc) fs ok (.slice ka ks.length kc) B wq (hid (blk_on hS.out LQ.out)) (hid (dst_on hD.out LQ.out)) (hid (txR_on hV.out LQ.out)) hlo hgl (hid (kidsIn_on (LQ.out.mono hB) hK.out)) (Nat.le_trans hB LQ.out.size) hBs hfB hokB hks.out hck h32)
            refine HNC.out.mono ?_
            intro r4 w4 h4
            have HQ := hid h4
            have hk4 : Keep (FD s fv) wq w4 := nodesOut_keep h4
            have nfd : ∀ b, w.heap.size ≤ b → ¬ FD s fv b := fun b hb e => by
              rcases e with e | e
              · omega
              · have := hfl.out b e; omega
            have B4 := hid (blk_keep BXQ.out hk4 (nfd _ (by omega)))
            have S4 := hid (blk_keep SLQ.out hk4 (nfd _ (by omega)))
            have O4 := hid (blk_keep OUQ.out hk4 (nfd _ (by omega)))
            have hz4 := hk4.size
            obtain ⟨ka4, kn4, kc4, er4⟩ : ∃ a n c, r4 = .returned (.slice a n c) := nodesOut_shape h4
            subst er4
            have f45 : w4.frozen? ⟨w.heap.size + 1 + 1, 5, none⟩ = false := blk_free O4.out 5
            obtain ⟨o40, o41, o42, o43, o44, o45, o46⟩ := box_cells (show Box (w.heap.size + 1 + 1) 33 0 (i : Int) ⟨#[]⟩ (.slice none 0 0) (.slice none 0 0) 0 w4 from O4.out)
            obtain ⟨z40, z41, z42, z43, z44, z45, z46⟩ := box_cells (show Box (w.heap.size + 1) 0 0 0 ⟨#[]⟩ (.slice none 0 0) (.slice none 0 0) 0 w4 from S4.out)
            have g40 : w4.frozen? ⟨w.heap.size + 1, 0, none⟩ = false := blk_free S4.out 0
            have g41 : w4.frozen? ⟨w.heap.size + 1, 1, none⟩ = false := blk_free S4.out 1
            have g42 : w4.frozen? ⟨w.heap.size + 1, 2, none⟩ = false := blk_free S4.out 2
            have g43 : w4.frozen? ⟨w.heap.size + 1, 3, none⟩ = false := blk_free S4.out 3
            have g44 : w4.frozen? ⟨w.heap.size + 1, 4, none⟩ = false := blk_free S4.out 4
            have g45 : w4.frozen? ⟨w.heap.size + 1, 5, none⟩ = false := blk_free S4.out 5
            have g46 : w4.frozen? ⟨w.heap.size + 1, 6, none⟩ = false := blk_free S4.out 6
            clear h4 hk4 nfd
            go_wp2_with fail
            have K5 := Keep.set (S := fun b => b = w.heap.size + 1 + 1) rfl w4 5 (.slice ka4 kn4 kc4)
            have P := putD7 (blk_keep S4.out K5 (by omega)) (.int .i64 33) (.int .i64 0) (.int .i64 (i : Int)) (.string ⟨#[]⟩) (.slice none 0 0) (.slice ka4 kn4 kc4) (.int .i64 0)
            refine bodyPost_ret (ret_ndD rfl rfl P.1) rfl ?_
            have KP := (K5.mono (T := fun b => b = w.heap.size + 1 ∨ b = w.heap.size + 1 + 1) (fun b _ e => .inr e)).trans (P.2.mono (T := fun b => b = w.heap.size + 1 ∨ b = w.heap.size + 1 + 1) (fun b _ e => .inl e)) (fun _ _ h => h)
            exact nodeD_end HRA.out ⟨_, _, _, rfl⟩ (fun c hc => .inl ⟨none, 0, rfl, rfl⟩) hS.out hD.out hsl LQ.out ZQ.out hfl.out KP HQ.out
      | none =>
        rw [show idxV lo z = -1 by unfold idxV; rw [hil]] at HFL
        have TG := three_nd w #[.int .i64 k, .int .i64 o, .int .i64 n, .string z, .slice na ns.length nc, .slice ka ks.length kc, .int .i64 p] #[.int .i64 0, .int .i64 0, .int .i64 0, .string ⟨#[]⟩, .slice none 0 0, .slice none 0 0, .int .i64 0] #[.int .i64 18, .int .i64 0, .int .i64 (-1), .string ⟨#[]⟩, .slice none 0 0, .slice none 0 0, .int .i64 0]
        have HFG := hid (rfindD_calls _ (txR_on hD.out.wh TG.2.2.2.1.drew) z (by omega))
        rw [HWV.out] at HFG
        clear TG
        cases hig : idxN gl z with
        | some i =>
          rw [show idxV gl z = (i : Int) by unfold idxV; rw [hig]] at HFG
          have dI : decide ((i : Int) < 0) = false := decide_eq_false (by omega)
          rcases ways with q5 | ways
          · have HFP := hid (show findP gl lo k z = some (19, i) by unfold findP; rw [hil]; simp only; rw [hig]; simp only; rw [if_pos (by simpa using q5)])
            have q5n : (k != 5) = false := by simp; simpa using q5
            clear hil hig hnm
            have HRA := hid (show resN gl (.mk k o n z ns ks p) lo fs = (resL gl ks lo fs).bind fun q => .ok (.mk 19 0 (i : Int) ⟨#[]⟩ [] q.1 0, q.2) by rw [HRE.out, if_pos HNM.out, HFP.out])
            have TF := three_nd w #[.int .i64 k, .int .i64 o, .int .i64 n, .string z, .slice na ns.length nc, .slice ka ks.length kc, .int .i64 p] #[.int .i64 0, .int .i64 0, .int .i64 0, .string ⟨#[]⟩, .slice none 0 0, .slice none 0 0, .int .i64 0] #[.int .i64 19, .int .i64 0, .int .i64 (i : Int), .string ⟨#[]⟩, .slice none 0 0, .slice none 0 0, .int .i64 0]
            have BXQ := hid (blk_on TF.1 (Below.refl _ _).drew)
            have SLQ := hid (blk_on TF.2.1 (Below.refl _ _).drew)
            have OUQ := hid (blk_on TF.2.2.1 (Below.refl _ _).drew)
            have LQ := hid TF.2.2.2.1.drew
            have ZQ := hid (show w.heap.size + 1 + 1 < ((((w.alloc (.cells #[.int .i64 k, .int .i64 o, .int .i64 n, .string z, .slice na ns.length nc, .slice ka ks.length kc, .int .i64 p] 25)).alloc (.cells #[.int .i64 0, .int .i64 0, .int .i64 0, .string ⟨#[]⟩, .slice none 0 0, .slice none 0 0, .int .i64 0] 25)).alloc (.cells #[.int .i64 19, .int .i64 0, .int .i64 (i : Int), .string ⟨#[]⟩, .slice none 0 0, .slice none 0 0, .int .i64 0] 25))).drew.heap.size from TF.2.2.2.2)
            clear TF
            go_enter Tryd.func41, Tryd.ntmps41
            go_wp2_with fail
            refine HFL.out.mono ?_
            rintro e1 w1 ⟨rfl, rfl⟩
            go_wp2_with fail
            refine wp_region_held_drew (S := fun a => a.cell? ⟨s, 2, none⟩ = some (.slice wa gl.length wc) ∧ a.cell? ⟨w.heap.size, 3, none⟩ = some (.string z)) (by kernel_rfl) (by refine ⟨?_, ?_⟩ <;> go_simp) (fun hHeld => ?_)
            refine wpAnyH_take (i := 0) (v := ?_) rfl (by kernel_rfl) (by kernel_rfl) (by kernel_rfl) (fun _ _ _ h => h) (Or.inl ⟨by rfl, ?_⟩) (by assumption) ?_
            rotate_left 1
            · (intro w hSw; go_simp <;> (try with_reducible rfl))
            simp only [Act.put, List.setIfInBounds_toArray, List.set_cons_zero, List.set_cons_succ, List.getElem_toArray, List.getElem_cons_succ, List.getElem_cons_zero]
            refine wpAnyH_take (i := 1) (v := ?_) rfl (by kernel_rfl) (by kernel_rfl) (by kernel_rfl) (fun _ _ _ h => h) (Or.inl ⟨by rfl, ?_⟩) (by assumption) ?_
            rotate_left 1
            · (intro w hSw; go_simp <;> (try with_reducible rfl))
            simp only [Act.put, List.setIfInBounds_toArray, List.set_cons_zero, List.set_cons_succ, List.getElem_toArray, List.getElem_cons_succ, List.getElem_cons_zero]
            refine wpAnyH_take (i := 2) (v := ?_) rfl (by kernel_rfl) (by kernel_rfl) (by kernel_rfl) (fun _ _ _ h => h) (Or.inl ⟨by rfl, ?_⟩) (by assumption) ?_
            rotate_left 1
            · (intro w hSw; go_simp <;> (try with_reducible rfl))
            simp only [Act.put, List.setIfInBounds_toArray, List.set_cons_zero, List.set_cons_succ, List.getElem_toArray, List.getElem_cons_succ, List.getElem_cons_zero]
            refine wpAnyH_take (i := 3) (v := ?_) rfl (by kernel_rfl) (by kernel_rfl) (by kernel_rfl) (fun _ _ _ h => h) (Or.inl ⟨by rfl, ?_⟩) (by assumption) ?_
            rotate_left 1
            · (intro w hSw; go_simp <;> (try with_reducible rfl))
            simp only [Act.put, List.setIfInBounds_toArray, List.set_cons_zero, List.set_cons_succ, List.getElem_toArray, List.getElem_cons_succ, List.getElem_cons_zero]
            refine wpAnyH_take (i := 4) (v := ?_) rfl (by kernel_rfl) (by kernel_rfl) (by kernel_rfl) (fun _ _ _ h => h) (Or.inl ⟨by rfl, ?_⟩) (by assumption) ?_
            rotate_left 1
            · (intro w hSw; go_simp <;> (try with_reducible rfl))
            simp only [Act.put, List.setIfInBounds_toArray, List.set_cons_zero, List.set_cons_succ, List.getElem_toArray, List.getElem_cons_succ, List.getElem_cons_zero]
            refine wpAnyH_take (i := 5) (v := ?_) rfl (by kernel_rfl) (by kernel_rfl) (by kernel_rfl) (fun _ _ _ h => h) (Or.inl ⟨by rfl, ?_⟩) (by assumption) ?_
            rotate_left 1
            · (intro w hSw; go_simp <;> (try with_reducible rfl))
            simp only [Act.put, List.setIfInBounds_toArray, List.set_cons_zero, List.set_cons_succ, List.getElem_toArray, List.getElem_cons_succ, List.getElem_cons_zero]
            refine wpAnyH_ready (rs := [6]) (by kernel_rfl) (by simp) ?_
            refine AllReadyH.cons rfl (fun K hK => ?_) AllReadyH.nil
            go_simp
            refine HFG.out.mono ?_
            rintro e2 w2 ⟨rfl, rfl⟩
            go_simp
            refine hK.out _ _ hHeld (fun _ => ?_)
            clear hK K
            try simp only [Act.put, List.setIfInBounds_toArray, List.set_cons_zero, List.set_cons_succ, List.getElem_toArray, List.getElem_cons_succ, List.getElem_cons_zero]
            refine wpAnyH_take (i := 7) (v := ?_) rfl (by kernel_rfl) (by kernel_rfl) (by kernel_rfl) (fun _ _ _ h => h) (Or.inl ⟨by rfl, ?_⟩) (by assumption) ?_
            rotate_left 1
            · (intro w hSw; go_simp <;> (try with_reducible rfl))
            simp only [Act.put, List.setIfInBounds_toArray, List.set_cons_zero, List.set_cons_succ, List.getElem_toArray, List.getElem_cons_succ, List.getElem_cons_zero]
            refine wpAnyH_ready (rs := [8]) (by kernel_rfl) (by simp) ?_
            refine AllReadyH.cons rfl (fun K hK => ?_) AllReadyH.nil
            go_simp
            refine hK.out _ _ (by refine ⟨?_, ?_⟩ <;> go_simp) (fun _ => ?_)
            clear hK K hHeld
            refine wpAnyH_done (by kernel_rfl) ?_ _
            go_wp2_with fail
            generalize ((((w.alloc (.cells #[.int .i64 k, .int .i64 o, .int .i64 n, .string z, .slice na ns.length nc, .slice ka ks.length kc, .int .i64 p] 25)).alloc (.cells #[.int .i64 0, .int .i64 0, .int .i64 0, .string ⟨#[]⟩, .slice none 0 0, .slice none 0 0, .int .i64 0] 25)).alloc (.cells #[.int .i64 19, .int .i64 0, .int .i64 (i : Int), .string ⟨#[]⟩, .slice none 0 0, .slice none 0 0, .int .i64 0] 25))).drew = wq at *
            have HNC := hid (hKids.out s G fv wv at_ gl lo (.slice oa lo.length oc) fs ok (.slice ka ks.length kc) B wq (hid (blk_on hS.out LQ.out)) (hid (dst_on hD.out LQ.out)) (hid (txR_on hV.out LQ.out)) hlo hgl (hid (kidsIn_on (LQ.out.mono hB) hK.out)) (Nat.le_trans hB LQ.out.size) hBs hfB hokB hks.out hck h32)
            refine HNC.out.mono ?_
            intro r4 w4 h4
            have HQ := hid h4
            have hk4 : Keep (FD s fv) wq w4 := nodesOut_keep h4
            have nfd : ∀ b, w.heap.size ≤ b → ¬ FD s fv b := fun b hb e => by
              rcases e with e | e
              · omega
              · have := hfl.out b e; omega
            have B4 := hid (blk_keep BXQ.out hk4 (nfd _ (by omega)))
            have S4 := hid (blk_keep SLQ.out hk4 (nfd _ (by omega)))
            have O4 := hid (blk_keep OUQ.out hk4 (nfd _ (by omega)))
            have hz4 := hk4.size
            obtain ⟨ka4, kn4, kc4, er4⟩ : ∃ a n c, r4 = .returned (.slice a n c) := nodesOut_shape h4
            subst er4
            have f45 : w4.frozen? ⟨w.heap.size + 1 + 1, 5, none⟩ = false := blk_free O4.out 5
            obtain ⟨o40, o41, o42, o43, o44, o45, o46⟩ := box_cells (show Box (w.heap.size + 1 + 1) 19 0 (i : Int) ⟨#[]⟩ (.slice none 0 0) (.slice none 0 0) 0 w4 from O4.out)
            obtain ⟨z40, z41, z42, z43, z44, z45, z46⟩ := box_cells (show Box (w.heap.size + 1) 0 0 0 ⟨#[]⟩ (.slice none 0 0) (.slice none 0 0) 0 w4 from S4.out)
            have g40 : w4.frozen? ⟨w.heap.size + 1, 0, none⟩ = false := blk_free S4.out 0
            have g41 : w4.frozen? ⟨w.heap.size + 1, 1, none⟩ = false := blk_free S4.out 1
            have g42 : w4.frozen? ⟨w.heap.size + 1, 2, none⟩ = false := blk_free S4.out 2
            have g43 : w4.frozen? ⟨w.heap.size + 1, 3, none⟩ = false := blk_free S4.out 3
            have g44 : w4.frozen? ⟨w.heap.size + 1, 4, none⟩ = false := blk_free S4.out 4
            have g45 : w4.frozen? ⟨w.heap.size + 1, 5, none⟩ = false := blk_free S4.out 5
            have g46 : w4.frozen? ⟨w.heap.size + 1, 6, none⟩ = false := blk_free S4.out 6
            clear h4 hk4 nfd
            go_wp2_with fail
            have K5 := Keep.set (S := fun b => b = w.heap.size + 1 + 1) rfl w4 5 (.slice ka4 kn4 kc4)
            have P := putD7 (blk_keep S4.out K5 (by omega)) (.int .i64 19) (.int .i64 0) (.int .i64 (i : Int)) (.string ⟨#[]⟩) (.slice none 0 0) (.slice ka4 kn4 kc4) (.int .i64 0)
            refine bodyPost_ret (ret_ndD rfl rfl P.1) rfl ?_
            have KP := (K5.mono (T := fun b => b = w.heap.size + 1 ∨ b = w.heap.size + 1 + 1) (fun b _ e => .inr e)).trans (P.2.mono (T := fun b => b = w.heap.size + 1 ∨ b = w.heap.size + 1 + 1) (fun b _ e => .inl e)) (fun _ _ h => h)
            exact nodeD_end HRA.out ⟨_, _, _, rfl⟩ (fun c hc => .inl ⟨none, 0, rfl, rfl⟩) hS.out hD.out hsl LQ.out ZQ.out hfl.out KP HQ.out
          · have HFP := hid (show findP gl lo k z = some (34, i) by unfold findP; rw [hil]; simp only; rw [hig]; simp only; rw [if_neg (by rcases ways with h | h <;> simpa using h.1)])
            have q5n : (k != 5) = true := by rcases ways with h | h <;> simpa using h.1
            clear hil hig hnm
            rcases ways with ⟨q5, q21⟩ | ⟨q5, q21, q22⟩
            all_goals
              have HRA := hid (show resN gl (.mk k o n z ns ks p) lo fs = (resL gl ks lo fs).bind fun q => .ok (.mk 34 0 (i : Int) ⟨#[]⟩ [] q.1 0, q.2) by rw [HRE.out, if_pos HNM.out, HFP.out])
              have TF := three_nd w #[.int .i64 k, .int .i64 o, .int .i64 n, .string z, .slice na ns.length nc, .slice ka ks.length kc, .int .i64 p] #[.int .i64 0, .int .i64 0, .int .i64 0, .string ⟨#[]⟩, .slice none 0 0, .slice none 0 0, .int .i64 0] #[.int .i64 34, .int .i64 0, .int .i64 (i : Int), .string ⟨#[]⟩, .slice none 0 0, .slice none 0 0, .int .i64 0]
              have BXQ := hid (blk_on TF.1 (Below.refl _ _).drew)
              have SLQ := hid (blk_on TF.2.1 (Below.refl _ _).drew)
              have OUQ := hid (blk_on TF.2.2.1 (Below.refl _ _).drew)
              have LQ := hid TF.2.2.2.1.drew
              have ZQ := hid (show w.heap.size + 1 + 1 < ((((w.alloc (.cells #[.int .i64 k, .int .i64 o, .int .i64 n, .string z, .slice na ns.length nc, .slice ka ks.length kc, .int .i64 p] 25)).alloc (.cells #[.int .i64 0, .int .i64 0, .int .i64 0, .string ⟨#[]⟩, .slice none 0 0, .slice none 0 0, .int .i64 0] 25)).alloc (.cells #[.int .i64 34, .int .i64 0, .int .i64 (i : Int), .string ⟨#[]⟩, .slice none 0 0, .slice none 0 0, .int .i64 0] 25))).drew.heap.size from TF.2.2.2.2)
              clear TF
              go_enter Tryd.func41, Tryd.ntmps41
              go_wp2_with fail
              refine HFL.out.mono ?_
              rintro e1 w1 ⟨rfl, rfl⟩
              go_wp2_with fail
              refine wp_region_held_drew (S := fun a => a.cell? ⟨s, 2, none⟩ = some (.slice wa gl.length wc) ∧ a.cell? ⟨w.heap.size, 3, none⟩ = some (.string z)) (by kernel_rfl) (by refine ⟨?_, ?_⟩ <;> go_simp) (fun hHeld => ?_)
              refine wpAnyH_take (i := 0) (v := ?_) rfl (by kernel_rfl) (by kernel_rfl) (by kernel_rfl) (fun _ _ _ h => h) (Or.inl ⟨by rfl, ?_⟩) (by assumption) ?_
              rotate_left 1
              · (intro w hSw; go_simp <;> (try with_reducible rfl))
              simp only [Act.put, List.setIfInBounds_toArray, List.set_cons_zero, List.set_cons_succ, List.getElem_toArray, List.getElem_cons_succ, List.getElem_cons_zero]
              refine wpAnyH_take (i := 1) (v := ?_) rfl (by kernel_rfl) (by kernel_rfl) (by kernel_rfl) (fun _ _ _ h => h) (Or.inl ⟨by rfl, ?_⟩) (by assumption) ?_
              rotate_left 1
              · (intro w hSw; go_simp <;> (try with_reducible rfl))
              simp only [Act.put, List.setIfInBounds_toArray, List.set_cons_zero, List.set_cons_succ, List.getElem_toArray, List.getElem_cons_succ, List.getElem_cons_zero]
              refine wpAnyH_take (i := 2) (v := ?_) rfl (by kernel_rfl) (by kernel_rfl) (by kernel_rfl) (fun _ _ _ h => h) (Or.inl ⟨by rfl, ?_⟩) (by assumption) ?_
              rotate_left 1
              · (intro w hSw; go_simp <;> (try with_reducible rfl))
              simp only [Act.put, List.setIfInBounds_toArray, List.set_cons_zero, List.set_cons_succ, List.getElem_toArray, List.getElem_cons_succ, List.getElem_cons_zero]
              refine wpAnyH_take (i := 3) (v := ?_) rfl (by kernel_rfl) (by kernel_rfl) (by kernel_rfl) (fun _ _ _ h => h) (Or.inl ⟨by rfl, ?_⟩) (by assumption) ?_
              rotate_left 1
              · (intro w hSw; go_simp <;> (try with_reducible rfl))
              simp only [Act.put, List.setIfInBounds_toArray, List.set_cons_zero, List.set_cons_succ, List.getElem_toArray, List.getElem_cons_succ, List.getElem_cons_zero]
              refine wpAnyH_take (i := 4) (v := ?_) rfl (by kernel_rfl) (by kernel_rfl) (by kernel_rfl) (fun _ _ _ h => h) (Or.inl ⟨by rfl, ?_⟩) (by assumption) ?_
              rotate_left 1
              · (intro w hSw; go_simp <;> (try with_reducible rfl))
              simp only [Act.put, List.setIfInBounds_toArray, List.set_cons_zero, List.set_cons_succ, List.getElem_toArray, List.getElem_cons_succ, List.getElem_cons_zero]
              refine wpAnyH_take (i := 5) (v := ?_) rfl (by kernel_rfl) (by kernel_rfl) (by kernel_rfl) (fun _ _ _ h => h) (Or.inl ⟨by rfl, ?_⟩) (by assumption) ?_
              rotate_left 1
              · (intro w hSw; go_simp <;> (try with_reducible rfl))
              simp only [Act.put, List.setIfInBounds_toArray, List.set_cons_zero, List.set_cons_succ, List.getElem_toArray, List.getElem_cons_succ, List.getElem_cons_zero]
              refine wpAnyH_ready (rs := [6]) (by kernel_rfl) (by simp) ?_
              refine AllReadyH.cons rfl (fun K hK => ?_) AllReadyH.nil
              go_simp
              refine HFG.out.mono ?_
              rintro e2 w2 ⟨rfl, rfl⟩
              go_simp
              refine hK.out _ _ hHeld (fun _ => ?_)
              clear hK K
              try simp only [Act.put, List.setIfInBounds_toArray, List.set_cons_zero, List.set_cons_succ, List.getElem_toArray, List.getElem_cons_succ, List.getElem_cons_zero]
              refine wpAnyH_take (i := 7) (v := ?_) rfl (by kernel_rfl) (by kernel_rfl) (by kernel_rfl) (fun _ _ _ h => h) (Or.inl ⟨by rfl, ?_⟩) (by assumption) ?_
              rotate_left 1
              · (intro w hSw; go_simp <;> (try with_reducible rfl))
              simp only [Act.put, List.setIfInBounds_toArray, List.set_cons_zero, List.set_cons_succ, List.getElem_toArray, List.getElem_cons_succ, List.getElem_cons_zero]
              refine wpAnyH_ready (rs := [8]) (by kernel_rfl) (by simp) ?_
              refine AllReadyH.cons rfl (fun K hK => ?_) AllReadyH.nil
              go_simp
              refine hK.out _ _ (by refine ⟨?_, ?_⟩ <;> go_simp) (fun _ => ?_)
              clear hK K hHeld
              refine wpAnyH_done (by kernel_rfl) ?_ _
              go_wp2_with fail
              generalize ((((w.alloc (.cells #[.int .i64 k, .int .i64 o, .int .i64 n, .string z, .slice na ns.length nc, .slice ka ks.length kc, .int .i64 p] 25)).alloc (.cells #[.int .i64 0, .int .i64 0, .int .i64 0, .string ⟨#[]⟩, .slice none 0 0, .slice none 0 0, .int .i64 0] 25)).alloc (.cells #[.int .i64 34, .int .i64 0, .int .i64 (i : Int), .string ⟨#[]⟩, .slice none 0 0, .slice none 0 0, .int .i64 0] 25))).drew = wq at *
              have HNC := hid (hKids.out s G fv wv at_ gl lo (.slice oa lo.length oc) fs ok (.slice ka ks.length kc) B wq (hid (blk_on hS.out LQ.out)) (hid (dst_on hD.out LQ.out)) (hid (txR_on hV.out LQ.out)) hlo hgl (hid (kidsIn_on (LQ.out.mono hB) hK.out)) (Nat.le_trans hB LQ.out.size) hBs hfB hokB hks.out hck h32)
              refine HNC.out.mono ?_
              intro r4 w4 h4
              have HQ := hid h4
              have hk4 : Keep (FD s fv) wq w4 := nodesOut_keep h4
              have nfd : ∀ b, w.heap.size ≤ b → ¬ FD s fv b := fun b hb e => by
                rcases e with e | e
                · omega
                · have := hfl.out b e; omega
              have B4 := hid (blk_keep BXQ.out hk4 (nfd _ (by omega)))
              have S4 := hid (blk_keep SLQ.out hk4 (nfd _ (by omega)))
              have O4 := hid (blk_keep OUQ.out hk4 (nfd _ (by omega)))
              have hz4 := hk4.size
              obtain ⟨ka4, kn4, kc4, er4⟩ : ∃ a n c, r4 = .returned (.slice a n c) := nodesOut_shape h4
              subst er4
              have f45 : w4.frozen? ⟨w.heap.size + 1 + 1, 5, none⟩ = false := blk_free O4.out 5
              obtain ⟨o40, o41, o42, o43, o44, o45, o46⟩ := box_cells (show Box (w.heap.size + 1 + 1) 34 0 (i : Int) ⟨#[]⟩ (.slice none 0 0) (.slice none 0 0) 0 w4 from O4.out)
              obtain ⟨z40, z41, z42, z43, z44, z45, z46⟩ := box_cells (show Box (w.heap.size + 1) 0 0 0 ⟨#[]⟩ (.slice none 0 0) (.slice none 0 0) 0 w4 from S4.out)
              have g40 : w4.frozen? ⟨w.heap.size + 1, 0, none⟩ = false := blk_free S4.out 0
              have g41 : w4.frozen? ⟨w.heap.size + 1, 1, none⟩ = false := blk_free S4.out 1
              have g42 : w4.frozen? ⟨w.heap.size + 1, 2, none⟩ = false := blk_free S4.out 2
              have g43 : w4.frozen? ⟨w.heap.size + 1, 3, none⟩ = false := blk_free S4.out 3
              have g44 : w4.frozen? ⟨w.heap.size + 1, 4, none⟩ = false := blk_free S4.out 4
              have g45 : w4.frozen? ⟨w.heap.size + 1, 5, none⟩ = false := blk_free S4.out 5
              have g46 : w4.frozen? ⟨w.heap.size + 1, 6, none⟩ = false := blk_free S4.out 6
              clear h4 hk4 nfd
              go_wp2_with fail
              have K5 := Keep.set (S := fun b => b = w.heap.size + 1 + 1) rfl w4 5 (.slice ka4 kn4 kc4)
              have P := putD7 (blk_keep S4.out K5 (by omega)) (.int .i64 34) (.int .i64 0) (.int .i64 (i : Int)) (.string ⟨#[]⟩) (.slice none 0 0) (.slice ka4 kn4 kc4) (.int .i64 0)
              refine bodyPost_ret (ret_ndD rfl rfl P.1) rfl ?_
              have KP := (K5.mono (T := fun b => b = w.heap.size + 1 ∨ b = w.heap.size + 1 + 1) (fun b _ e => .inr e)).trans (P.2.mono (T := fun b => b = w.heap.size + 1 ∨ b = w.heap.size + 1 + 1) (fun b _ e => .inl e)) (fun _ _ h => h)
              exact nodeD_end HRA.out ⟨_, _, _, rfl⟩ (fun c hc => .inl ⟨none, 0, rfl, rfl⟩) hS.out hD.out hsl LQ.out ZQ.out hfl.out KP HQ.out
        | none =>
          rw [show idxV gl z = -1 by unfold idxV; rw [hig]] at HFG
          have HFP := hid (show findP gl lo k z = none by unfold findP; rw [hil]; simp only; rw [hig])
          clear hil hig hnm
          rcases ways with q5 | ways
          · have q5n : (k != 5) = false := by simp; simpa using q5
            have HRB := hid (show resN gl (.mk k o n z ns ks p) lo fs = .bad p 14 by rw [HRE.out, if_pos HNM.out, HFP.out])
            have TF := three_nd w #[.int .i64 k, .int .i64 o, .int .i64 n, .string z, .slice na ns.length nc, .slice ka ks.length kc, .int .i64 p] #[.int .i64 0, .int .i64 0, .int .i64 0, .string ⟨#[]⟩, .slice none 0 0, .slice none 0 0, .int .i64 0] #[.int .i64 19, .int .i64 0, .int .i64 (-1), .string ⟨#[]⟩, .slice none 0 0, .slice none 0 0, .int .i64 0]
            have BXQ := hid (blk_on TF.1 (Below.refl _ _).drew)
            have SLQ := hid (blk_on TF.2.1 (Below.refl _ _).drew)
            have OUQ := hid (blk_on TF.2.2.1 (Below.refl _ _).drew)
            have LQ := hid TF.2.2.2.1.drew
            have ZQ := hid (show w.heap.size + 1 + 1 < ((((w.alloc (.cells #[.int .i64 k, .int .i64 o, .int .i64 n, .string z, .slice na ns.length nc, .slice ka ks.length kc, .int .i64 p] 25)).alloc (.cells #[.int .i64 0, .int .i64 0, .int .i64 0, .string ⟨#[]⟩, .slice none 0 0, .slice none 0 0, .int .i64 0] 25)).alloc (.cells #[.int .i64 19, .int .i64 0, .int .i64 (-1), .string ⟨#[]⟩, .slice none 0 0, .slice none 0 0, .int .i64 0] 25))).drew.heap.size from TF.2.2.2.2)
            clear TF
            go_enter Tryd.func41, Tryd.ntmps41
            go_wp2_with fail
            refine HFL.out.mono ?_
            rintro e1 w1 ⟨rfl, rfl⟩
            go_wp2_with fail
            refine wp_region_held_drew (S := fun a => a.cell? ⟨s, 2, none⟩ = some (.slice wa gl.length wc) ∧ a.cell? ⟨w.heap.size, 3, none⟩ = some (.string z)) (by kernel_rfl) (by refine ⟨?_, ?_⟩ <;> go_simp) (fun hHeld => ?_)
            refine wpAnyH_take (i := 0) (v := ?_) rfl (by kernel_rfl) (by kernel_rfl) (by kernel_rfl) (fun _ _ _ h => h) (Or.inl ⟨by rfl, ?_⟩) (by assumption) ?_
            rotate_left 1
            · (intro w hSw; go_simp <;> (try with_reducible rfl))
            simp only [Act.put, List.setIfInBounds_toArray, List.set_cons_zero, List.set_cons_succ, List.getElem_toArray, List.getElem_cons_succ, List.getElem_cons_zero]
            refine wpAnyH_take (i := 1) (v := ?_) rfl (by kernel_rfl) (by kernel_rfl) (by kernel_rfl) (fun _ _ _ h => h) (Or.inl ⟨by rfl, ?_⟩) (by assumption) ?_
            rotate_left 1
            · (intro w hSw; go_simp <;> (try with_reducible rfl))
            simp only [Act.put, List.setIfInBounds_toArray, List.set_cons_zero, List.set_cons_succ, List.getElem_toArray, List.getElem_cons_succ, List.getElem_cons_zero]
            refine wpAnyH_take (i := 2) (v := ?_) rfl (by kernel_rfl) (by kernel_rfl) (by kernel_rfl) (fun _ _ _ h => h) (Or.inl ⟨by rfl, ?_⟩) (by assumption) ?_
            rotate_left 1
            · (intro w hSw; go_simp <;> (try with_reducible rfl))
            simp only [Act.put, List.setIfInBounds_toArray, List.set_cons_zero, List.set_cons_succ, List.getElem_toArray, List.getElem_cons_succ, List.getElem_cons_zero]
            refine wpAnyH_take (i := 3) (v := ?_) rfl (by kernel_rfl) (by kernel_rfl) (by kernel_rfl) (fun _ _ _ h => h) (Or.inl ⟨by rfl, ?_⟩) (by assumption) ?_
            rotate_left 1
            · (intro w hSw; go_simp <;> (try with_reducible rfl))
            simp only [Act.put, List.setIfInBounds_toArray, List.set_cons_zero, List.set_cons_succ, List.getElem_toArray, List.getElem_cons_succ, List.getElem_cons_zero]
            refine wpAnyH_take (i := 4) (v := ?_) rfl (by kernel_rfl) (by kernel_rfl) (by kernel_rfl) (fun _ _ _ h => h) (Or.inl ⟨by rfl, ?_⟩) (by assumption) ?_
            rotate_left 1
            · (intro w hSw; go_simp <;> (try with_reducible rfl))
            simp only [Act.put, List.setIfInBounds_toArray, List.set_cons_zero, List.set_cons_succ, List.getElem_toArray, List.getElem_cons_succ, List.getElem_cons_zero]
            refine wpAnyH_take (i := 5) (v := ?_) rfl (by kernel_rfl) (by kernel_rfl) (by kernel_rfl) (fun _ _ _ h => h) (Or.inl ⟨by rfl, ?_⟩) (by assumption) ?_
            rotate_left 1
            · (intro w hSw; go_simp <;> (try with_reducible rfl))
            simp only [Act.put, List.setIfInBounds_toArray, List.set_cons_zero, List.set_cons_succ, List.getElem_toArray, List.getElem_cons_succ, List.getElem_cons_zero]
            refine wpAnyH_ready (rs := [6]) (by kernel_rfl) (by simp) ?_
            refine AllReadyH.cons rfl (fun K hK => ?_) AllReadyH.nil
            go_simp
            refine HFG.out.mono ?_
            rintro e2 w2 ⟨rfl, rfl⟩
            go_simp
            refine hK.out _ _ hHeld (fun _ => ?_)
            clear hK K
            try simp only [Act.put, List.setIfInBounds_toArray, List.set_cons_zero, List.set_cons_succ, List.getElem_toArray, List.getElem_cons_succ, List.getElem_cons_zero]
            refine wpAnyH_take (i := 7) (v := ?_) rfl (by kernel_rfl) (by kernel_rfl) (by kernel_rfl) (fun _ _ _ h => h) (Or.inl ⟨by rfl, ?_⟩) (by assumption) ?_
            rotate_left 1
            · (intro w hSw; go_simp <;> (try with_reducible rfl))
            simp only [Act.put, List.setIfInBounds_toArray, List.set_cons_zero, List.set_cons_succ, List.getElem_toArray, List.getElem_cons_succ, List.getElem_cons_zero]
            refine wpAnyH_ready (rs := [8]) (by kernel_rfl) (by simp) ?_
            refine AllReadyH.cons rfl (fun K hK => ?_) AllReadyH.nil
            go_simp
            refine hK.out _ _ (by refine ⟨?_, ?_⟩ <;> go_simp) (fun _ => ?_)
            clear hK K hHeld
            refine wpAnyH_done (by kernel_rfl) ?_ _
            go_wp2_with fail
            generalize ((((w.alloc (.cells #[.int .i64 k, .int .i64 o, .int .i64 n, .string z, .slice na ns.length nc, .slice ka ks.length kc, .int .i64 p] 25)).alloc (.cells #[.int .i64 0, .int .i64 0, .int .i64 0, .string ⟨#[]⟩, .slice none 0 0, .slice none 0 0, .int .i64 0] 25)).alloc (.cells #[.int .i64 19, .int .i64 0, .int .i64 (-1), .string ⟨#[]⟩, .slice none 0 0, .slice none 0 0, .int .i64 0] 25))).drew = wq at *
            have SQ := hid (blk_on hS.out LQ.out)
            refine (rfail_first _ SQ.out 14 p).mono ?_
            rintro e3 w3 ⟨rfl, s3, k3⟩
            have hz3 := k3.size
            have hzq := ZQ.out
            have B3 := hid (blk_keep BXQ.out k3 (by omega))
            have S3 := hid (blk_keep SLQ.out k3 (by omega))
            have O3 := hid (blk_keep OUQ.out k3 (by omega))
            have NE := hid (nodes_err w3 s3 (by decide) ka ks.length kc (.slice oa lo.length oc) (by omega) ⟨_, _, _, rfl⟩)
            have HB0 := hid (show BadD s G fv wv fs.length p 14 wq w3 from by
              obtain ⟨cs, hown, _⟩ := (dst_on hD.out LQ.out).fn
              refine ⟨by decide, k3.mono (fun b _ e => .inl e), fv, fs.length, cs, s3, Nat.le_refl _, by omega, row_keep hown (fun g hg => k3.block g (by obtain ⟨cur, hc⟩ := row_lt hown hg; exact blk_lt hc) (fun e => ?_)), fun g hg => .inl hg⟩
              obtain ⟨cur, hc⟩ := row_lt hown hg
              rw [show g = s from e] at hc
              exact blkD_not SQ.out (by decide) _ hc)
            obtain ⟨x30, x31, x32, x33, x34, x35, x36⟩ := box_cells (show Box w.heap.size k o n z (.slice na ns.length nc) (.slice ka ks.length kc) p w3 from B3.out)
            obtain ⟨o40, o41, o42, o43, o44, o45, o46⟩ := box_cells (show Box (w.heap.size + 1 + 1) 19 0 (-1) ⟨#[]⟩ (.slice none 0 0) (.slice none 0 0) 0 w3 from O3.out)
            obtain ⟨z40, z41, z42, z43, z44, z45, z46⟩ := box_cells (show Box (w.heap.size + 1) 0 0 0 ⟨#[]⟩ (.slice none 0 0) (.slice none 0 0) 0 w3 from S3.out)
            have f40 : w3.frozen? ⟨w.heap.size + 1 + 1, 0, none⟩ = false := blk_free O3.out 0
            have f45 : w3.frozen? ⟨w.heap.size + 1 + 1, 5, none⟩ = false := blk_free O3.out 5
            have g40 : w3.frozen? ⟨w.heap.size + 1, 0, none⟩ = false := blk_free S3.out 0
            have g41 : w3.frozen? ⟨w.heap.size + 1, 1, none⟩ = false := blk_free S3.out 1
            have g42 : w3.frozen? ⟨w.heap.size + 1, 2, none⟩ = false := blk_free S3.out 2
            have g43 : w3.frozen? ⟨w.heap.size + 1, 3, none⟩ = false := blk_free S3.out 3
            have g44 : w3.frozen? ⟨w.heap.size + 1, 4, none⟩ = false := blk_free S3.out 4
            have g45 : w3.frozen? ⟨w.heap.size + 1, 5, none⟩ = false := blk_free S3.out 5
            have g46 : w3.frozen? ⟨w.heap.size + 1, 6, none⟩ = false := blk_free S3.out 6
            have s33 := hid s3
            clear s3 k3 SQ
            go_wp2_with fail
            refine NE.out.mono ?_
            rintro e4 w4 ⟨rfl, rfl⟩
            go_wp2_with fail
            have K5 := Keep.set (S := fun b => b = w.heap.size + 1 + 1) rfl w4 5 (.slice none 0 0)
            have P := putD7 (blk_keep S3.out K5 (by omega)) (.int .i64 19) (.int .i64 0) (.int .i64 (-1)) (.string ⟨#[]⟩) (.slice none 0 0) (.slice none 0 0) (.int .i64 0)
            refine bodyPost_ret (ret_ndD rfl rfl P.1) rfl ?_
            have KP := (K5.mono (T := fun b => b = w.heap.size + 1 ∨ b = w.heap.size + 1 + 1) (fun b _ e => .inr e)).trans (P.2.mono (T := fun b => b = w.heap.size + 1 ∨ b = w.heap.size + 1 + 1) (fun b _ e => .inl e)) (fun _ _ h => h)
            rw [HRB.out]
            exact ⟨_, _, _, _, _, _, _, _, _, _, _, rfl, HB0.out.slot hS.out hD.out LQ.out KP (fun b e => by omega)⟩
          · have q5n : (k != 5) = true := by rcases ways with h | h <;> simpa using h.1
            rcases ways with ⟨q5, q21⟩ | ⟨q5, q21, q22⟩
            all_goals
              have HRB := hid (show resN gl (.mk k o n z ns ks p) lo fs = .bad p 14 by rw [HRE.out, if_pos HNM.out, HFP.out])
              have TF := three_nd w #[.int .i64 k, .int .i64 o, .int .i64 n, .string z, .slice na ns.length nc, .slice ka ks.length kc, .int .i64 p] #[.int .i64 0, .int .i64 0, .int .i64 0, .string ⟨#[]⟩, .slice none 0 0, .slice none 0 0, .int .i64 0] #[.int .i64 19, .int .i64 0, .int .i64 (-1), .string ⟨#[]⟩, .slice none 0 0, .slice none 0 0, .int .i64 0]
              have BXQ := hid (blk_on TF.1 (Below.refl _ _).drew)
              have SLQ := hid (blk_on TF.2.1 (Below.refl _ _).drew)
              have OUQ := hid (blk_on TF.2.2.1 (Below.refl _ _).drew)
              have LQ := hid TF.2.2.2.1.drew
              have ZQ := hid (show w.heap.size + 1 + 1 < ((((w.alloc (.cells #[.int .i64 k, .int .i64 o, .int .i64 n, .string z, .slice na ns.length nc, .slice ka ks.length kc, .int .i64 p] 25)).alloc (.cells #[.int .i64 0, .int .i64 0, .int .i64 0, .string ⟨#[]⟩, .slice none 0 0, .slice none 0 0, .int .i64 0] 25)).alloc (.cells #[.int .i64 19, .int .i64 0, .int .i64 (-1), .string ⟨#[]⟩, .slice none 0 0, .slice none 0 0, .int .i64 0] 25))).drew.heap.size from TF.2.2.2.2)
              clear TF
              go_enter Tryd.func41, Tryd.ntmps41
              go_wp2_with fail
              refine HFL.out.mono ?_
              rintro e1 w1 ⟨rfl, rfl⟩
              go_wp2_with fail
              refine wp_region_held_drew (S := fun a => a.cell? ⟨s, 2, none⟩ = some (.slice wa gl.length wc) ∧ a.cell? ⟨w.heap.size, 3, none⟩ = some (.string z)) (by kernel_rfl) (by refine ⟨?_, ?_⟩ <;> go_simp) (fun hHeld => ?_)
              refine wpAnyH_take (i := 0) (v := ?_) rfl (by kernel_rfl) (by kernel_rfl) (by kernel_rfl) (fun _ _ _ h => h) (Or.inl ⟨by rfl, ?_⟩) (by assumption) ?_
              rotate_left 1
              · (intro w hSw; go_simp <;> (try with_reducible rfl))
              simp only [Act.put, List.setIfInBounds_toArray, List.set_cons_zero, List.set_cons_succ, List.getElem_toArray, List.getElem_cons_succ, List.getElem_cons_zero]
              refine wpAnyH_take (i := 1) (v := ?_) rfl (by kernel_rfl) (by kernel_rfl) (by kernel_rfl) (fun _ _ _ h => h) (Or.inl ⟨by rfl, ?_⟩) (by assumption) ?_
              rotate_left 1
              · (intro w hSw; go_simp <;> (try with_reducible rfl))
              simp only [Act.put, List.setIfInBounds_toArray, List.set_cons_zero, List.set_cons_succ, List.getElem_toArray, List.getElem_cons_succ, List.getElem_cons_zero]
              refine wpAnyH_take (i := 2) (v := ?_) rfl (by kernel_rfl) (by kernel_rfl) (by kernel_rfl) (fun _ _ _ h => h) (Or.inl ⟨by rfl, ?_⟩) (by assumption) ?_
              rotate_left 1
              · (intro w hSw; go_simp <;> (try with_reducible rfl))
              simp only [Act.put, List.setIfInBounds_toArray, List.set_cons_zero, List.set_cons_succ, List.getElem_toArray, List.getElem_cons_succ, List.getElem_cons_zero]
              refine wpAnyH_take (i := 3) (v := ?_) rfl (by kernel_rfl) (by kernel_rfl) (by kernel_rfl) (fun _ _ _ h => h) (Or.inl ⟨by rfl, ?_⟩) (by assumption) ?_
              rotate_left 1
              · (intro w hSw; go_simp <;> (try with_reducible rfl))
              simp only [Act.put, List.setIfInBounds_toArray, List.set_cons_zero, List.set_cons_succ, List.getElem_toArray, List.getElem_cons_succ, List.getElem_cons_zero]
              refine wpAnyH_take (i := 4) (v := ?_) rfl (by kernel_rfl) (by kernel_rfl) (by kernel_rfl) (fun _ _ _ h => h) (Or.inl ⟨by rfl, ?_⟩) (by assumption) ?_
              rotate_left 1
              · (intro w hSw; go_simp <;> (try with_reducible rfl))
              simp only [Act.put, List.setIfInBounds_toArray, List.set_cons_zero, List.set_cons_succ, List.getElem_toArray, List.getElem_cons_succ, List.getElem_cons_zero]
              refine wpAnyH_take (i := 5) (v := ?_) rfl (by kernel_rfl) (by kernel_rfl) (by kernel_rfl) (fun _ _ _ h => h) (Or.inl ⟨by rfl, ?_⟩) (by assumption) ?_
              rotate_left 1
              · (intro w hSw; go_simp <;> (try with_reducible rfl))
              simp only [Act.put, List.setIfInBounds_toArray, List.set_cons_zero, List.set_cons_succ, List.getElem_toArray, List.getElem_cons_succ, List.getElem_cons_zero]
              refine wpAnyH_ready (rs := [6]) (by kernel_rfl) (by simp) ?_
              refine AllReadyH.cons rfl (fun K hK => ?_) AllReadyH.nil
              go_simp
              refine HFG.out.mono ?_
              rintro e2 w2 ⟨rfl, rfl⟩
              go_simp
              refine hK.out _ _ hHeld (fun _ => ?_)
              clear hK K
              try simp only [Act.put, List.setIfInBounds_toArray, List.set_cons_zero, List.set_cons_succ, List.getElem_toArray, List.getElem_cons_succ, List.getElem_cons_zero]
              refine wpAnyH_take (i := 7) (v := ?_) rfl (by kernel_rfl) (by kernel_rfl) (by kernel_rfl) (fun _ _ _ h => h) (Or.inl ⟨by rfl, ?_⟩) (by assumption) ?_
              rotate_left 1
              · (intro w hSw; go_simp <;> (try with_reducible rfl))
              simp only [Act.put, List.setIfInBounds_toArray, List.set_cons_zero, List.set_cons_succ, List.getElem_toArray, List.getElem_cons_succ, List.getElem_cons_zero]
              refine wpAnyH_ready (rs := [8]) (by kernel_rfl) (by simp) ?_
              refine AllReadyH.cons rfl (fun K hK => ?_) AllReadyH.nil
              go_simp
              refine hK.out _ _ (by refine ⟨?_, ?_⟩ <;> go_simp) (fun _ => ?_)
              clear hK K hHeld
              refine wpAnyH_done (by kernel_rfl) ?_ _
              go_wp2_with fail
              generalize ((((w.alloc (.cells #[.int .i64 k, .int .i64 o, .int .i64 n, .string z, .slice na ns.length nc, .slice ka ks.length kc, .int .i64 p] 25)).alloc (.cells #[.int .i64 0, .int .i64 0, .int .i64 0, .string ⟨#[]⟩, .slice none 0 0, .slice none 0 0, .int .i64 0] 25)).alloc (.cells #[.int .i64 19, .int .i64 0, .int .i64 (-1), .string ⟨#[]⟩, .slice none 0 0, .slice none 0 0, .int .i64 0] 25))).drew = wq at *
              have SQ := hid (blk_on hS.out LQ.out)
              refine (rfail_first _ SQ.out 14 p).mono ?_
              rintro e3 w3 ⟨rfl, s3, k3⟩
              have hz3 := k3.size
              have hzq := ZQ.out
              have B3 := hid (blk_keep BXQ.out k3 (by omega))
              have S3 := hid (blk_keep SLQ.out k3 (by omega))
              have O3 := hid (blk_keep OUQ.out k3 (by omega))
              have NE := hid (nodes_err w3 s3 (by decide) ka ks.length kc (.slice oa lo.length oc) (by omega) ⟨_, _, _, rfl⟩)
              have HB0 := hid (show BadD s G fv wv fs.length p 14 wq w3 from by
                obtain ⟨cs, hown, _⟩ := (dst_on hD.out LQ.out).fn
                refine ⟨by decide, k3.mono (fun b _ e => .inl e), fv, fs.length, cs, s3, Nat.le_refl _, by omega, row_keep hown (fun g hg => k3.block g (by obtain ⟨cur, hc⟩ := row_lt hown hg; exact blk_lt hc) (fun e => ?_)), fun g hg => .inl hg⟩
                obtain ⟨cur, hc⟩ := row_lt hown hg
                rw [show g = s from e] at hc
                exact blkD_not SQ.out (by decide) _ hc)
              obtain ⟨x30, x31, x32, x33, x34, x35, x36⟩ := box_cells (show Box w.heap.size k o n z (.slice na ns.length nc) (.slice ka ks.length kc) p w3 from B3.out)
              obtain ⟨o40, o41, o42, o43, o44, o45, o46⟩ := box_cells (show Box (w.heap.size + 1 + 1) 19 0 (-1) ⟨#[]⟩ (.slice none 0 0) (.slice none 0 0) 0 w3 from O3.out)
              obtain ⟨z40, z41, z42, z43, z44, z45, z46⟩ := box_cells (show Box (w.heap.size + 1) 0 0 0 ⟨#[]⟩ (.slice none 0 0) (.slice none 0 0) 0 w3 from S3.out)
              have f40 : w3.frozen? ⟨w.heap.size + 1 + 1, 0, none⟩ = false := blk_free O3.out 0
              have f45 : w3.frozen? ⟨w.heap.size + 1 + 1, 5, none⟩ = false := blk_free O3.out 5
              have g40 : w3.frozen? ⟨w.heap.size + 1, 0, none⟩ = false := blk_free S3.out 0
              have g41 : w3.frozen? ⟨w.heap.size + 1, 1, none⟩ = false := blk_free S3.out 1
              have g42 : w3.frozen? ⟨w.heap.size + 1, 2, none⟩ = false := blk_free S3.out 2
              have g43 : w3.frozen? ⟨w.heap.size + 1, 3, none⟩ = false := blk_free S3.out 3
              have g44 : w3.frozen? ⟨w.heap.size + 1, 4, none⟩ = false := blk_free S3.out 4
              have g45 : w3.frozen? ⟨w.heap.size + 1, 5, none⟩ = false := blk_free S3.out 5
              have g46 : w3.frozen? ⟨w.heap.size + 1, 6, none⟩ = false := blk_free S3.out 6
              have s33 := hid s3
              have K4 := Keep.set (S := fun b => b = w.heap.size + 1 + 1) rfl w3 0 (.int .i64 34)
              have NE2 := hid (nodes_err (w3.setCell ⟨w.heap.size + 1 + 1, 0, none⟩ (.int .i64 34)) (blk_keep s3 K4 (by omega)) (by decide) ka ks.length kc (.slice oa lo.length oc) (by omega) ⟨_, _, _, rfl⟩)
              clear s3 k3 SQ NE
              go_wp2_with fail
              refine NE2.out.mono ?_
              rintro e4 w4 ⟨rfl, rfl⟩
              go_wp2_with fail
              have K5 := K4.trans (Keep.set (S := fun b => b = w.heap.size + 1 + 1) rfl (w3.setCell ⟨w.heap.size + 1 + 1, 0, none⟩ (.int .i64 34)) 5 (.slice none 0 0)) (fun _ _ h => h)
              have P := putD7 (blk_keep S3.out K5 (by omega)) (.int .i64 34) (.int .i64 0) (.int .i64 (-1)) (.string ⟨#[]⟩) (.slice none 0 0) (.slice none 0 0) (.int .i64 0)
              refine bodyPost_ret (ret_ndD rfl rfl P.1) rfl ?_
              have KP := (K5.mono (T := fun b => b = w.heap.size + 1 ∨ b = w.heap.size + 1 + 1) (fun b _ e => .inr e)).trans (P.2.mono (T := fun b => b = w.heap.size + 1 ∨ b = w.heap.size + 1 + 1) (fun b _ e => .inl e)) (fun _ _ h => h)
              rw [HRB.out]
              exact ⟨_, _, _, _, _, _, _, _, _, _, _, rfl, HB0.out.slot hS.out hD.out LQ.out KP (fun b e => by omega)⟩
    · have hnm' : isNm k = false := by simpa using hnm
      have HRA := hid (show resN gl (.mk k o n z ns ks p) lo fs = (resL gl ks lo fs).bind fun q => .ok (.mk k o n z ns q.1 0, q.2) by rw [HRE.out, hnm']; rfl)
      have q5 : (k == 5) = false := by unfold isNm at hnm'; simp only [Bool.or_eq_false_iff] at hnm'; exact hnm'.1.1
      have q21 : (k == 21) = false := by unfold isNm at hnm'; simp only [Bool.or_eq_false_iff] at hnm'; exact hnm'.1.2
      have q22 : (k == 22) = false := by unfold isNm at hnm'; simp only [Bool.or_eq_false_iff] at hnm'; exact hnm'.2
      clear hnm hnm' HRE
      have TF := three_nd w #[.int .i64 k, .int .i64 o, .int .i64 n, .string z, .slice na ns.length nc, .slice ka ks.length kc, .int .i64 p] #[.int .i64 0, .int .i64 0, .int .i64 0, .string ⟨#[]⟩, .slice none 0 0, .slice none 0 0, .int .i64 0] #[.int .i64 k, .int .i64 o, .int .i64 n, .string z, .slice na ns.length nc, .slice none 0 0, .int .i64 0]
      have BXQ := hid TF.1
      have SLQ := hid TF.2.1
      have OUQ := hid TF.2.2.1
      have LQ := hid TF.2.2.2.1
      have ZQ := hid TF.2.2.2.2
      clear TF
      go_enter Tryd.func41, Tryd.ntmps41
      go_wp2_with fail
      generalize hWQ : (((w.alloc (.cells #[.int .i64 k, .int .i64 o, .int .i64 n, .string z, .slice na ns.length nc, .slice ka ks.length kc, .int .i64 p] 25)).alloc (.cells #[.int .i64 0, .int .i64 0, .int .i64 0, .string ⟨#[]⟩, .slice none 0 0, .slice none 0 0, .int .i64 0] 25)).alloc (.cells #[.int .i64 k, .int .i64 o, .int .i64 n, .string z, .slice na ns.length nc, .slice none 0 0, .int .i64 0] 25)) = wq at *
      clear hWQ
      have HNC := hid (hKids.out s G fv wv at_ gl lo (.slice oa lo.length oc) fs ok (.slice ka ks.length kc) B wq (hid (blk_on hS.out LQ.out)) (hid (dst_on hD.out LQ.out)) (hid (txR_on hV.out LQ.out)) hlo hgl (hid (kidsIn_on (LQ.out.mono hB) hK.out)) (Nat.le_trans hB LQ.out.size) hBs hfB hokB hks.out hck h32)
      refine HNC.out.mono ?_
      intro r4 w4 h4
      have HQ := hid h4
      have hk4 : Keep (FD s fv) wq w4 := nodesOut_keep h4
      have nfd : ∀ b, w.heap.size ≤ b → ¬ FD s fv b := fun b hb e => by
        rcases e with e | e
        · omega
        · have := hfl.out b e; omega
      have B4 := hid (blk_keep BXQ.out hk4 (nfd _ (by omega)))
      have S4 := hid (blk_keep SLQ.out hk4 (nfd _ (by omega)))
      have O4 := hid (blk_keep OUQ.out hk4 (nfd _ (by omega)))
      have hz4 := hk4.size
      obtain ⟨ka4, kn4, kc4, er4⟩ : ∃ a n c, r4 = .returned (.slice a n c) := nodesOut_shape h4
      subst er4
      have f45 : w4.frozen? ⟨w.heap.size + 1 + 1, 5, none⟩ = false := blk_free O4.out 5
      obtain ⟨o40, o41, o42, o43, o44, o45, o46⟩ := box_cells (show Box (w.heap.size + 1 + 1) k o n z (.slice na ns.length nc) (.slice none 0 0) 0 w4 from O4.out)
      obtain ⟨z40, z41, z42, z43, z44, z45, z46⟩ := box_cells (show Box (w.heap.size + 1) 0 0 0 ⟨#[]⟩ (.slice none 0 0) (.slice none 0 0) 0 w4 from S4.out)
      have g40 : w4.frozen? ⟨w.heap.size + 1, 0, none⟩ = false := blk_free S4.out 0
      have g41 : w4.frozen? ⟨w.heap.size + 1, 1, none⟩ = false := blk_free S4.out 1
      have g42 : w4.frozen? ⟨w.heap.size + 1, 2, none⟩ = false := blk_free S4.out 2
      have g43 : w4.frozen? ⟨w.heap.size + 1, 3, none⟩ = false := blk_free S4.out 3
      have g44 : w4.frozen? ⟨w.heap.size + 1, 4, none⟩ = false := blk_free S4.out 4
      have g45 : w4.frozen? ⟨w.heap.size + 1, 5, none⟩ = false := blk_free S4.out 5
      have g46 : w4.frozen? ⟨w.heap.size + 1, 6, none⟩ = false := blk_free S4.out 6
      clear h4 hk4 nfd
      go_wp2_with fail
      have K5 := Keep.set (S := fun b => b = w.heap.size + 1 + 1) rfl w4 5 (.slice ka4 kn4 kc4)
      have P := putD7 (blk_keep S4.out K5 (by omega)) (.int .i64 k) (.int .i64 o) (.int .i64 n) (.string z) (.slice na ns.length nc) (.slice ka4 kn4 kc4) (.int .i64 0)
      refine bodyPost_ret (ret_ndD rfl rfl P.1) rfl ?_
      have KP := (K5.mono (T := fun b => b = w.heap.size + 1 ∨ b = w.heap.size + 1 + 1) (fun b _ e => .inr e)).trans (P.2.mono (T := fun b => b = w.heap.size + 1 ∨ b = w.heap.size + 1 + 1) (fun b _ e => .inl e)) (fun _ _ h => h)
      exact nodeD_end HRA.out ⟨_, _, _, rfl⟩ (fun c hc => strsIn_S (strsIn_on hNm.out (hc.mono hB)) hokB.out) hS.out hD.out hsl LQ.out ZQ.out hfl.out KP HQ.out

  · exact absurd trivial h

end Go.Proofs.YtenpldenhgpneaaDoor
