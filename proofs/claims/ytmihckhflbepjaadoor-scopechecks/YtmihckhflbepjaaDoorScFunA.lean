/- A function within: its names, its row. -/
import Derived.Test.YtmihckhflbepjaaDoorScLaid
namespace Go.Proofs.YtmihckhflbepjaaDoor
set_option linter.unusedSimpArgs false
open Go.RowKit

theorem nm_ne_blk {m : Nat} {l : List ByteArray} {g : Nat} {T : TypeId} {cs : Array Value} {w : World} (h : NmAt m l w) (hb : Blk g T cs w) : m ≠ g := fun e => by
  obtain ⟨es, cl, hm⟩ := mapN_block h
  unfold Blk at hb
  rw [e, hb] at hm; cases hm
/-- other locals -/
theorem Rs.relocal {B r gm : Nat} {lv fv lv' : Value} {gl lo lo' : List ByteArray} {fs : List Fp} {ok : Nat → Prop} {a : World} (h : Rs B r gm lv fv gl lo fs ok a) (hl : LoAt lv' lo' a) (hB : ∀ b, lv' = .map (some b) → B ≤ b) : Rs B r gm lv' fv gl lo' fs ok (a.setCell ⟨r, 1, none⟩ lv') := by
  have K := Keep.set (S := fun b => b = r) rfl a 1 lv'
  refine ⟨by simpa using blk_set h.blk 1 lv', nmAt_keep h.gs (K.block gm (nmAt_lt h.gs) (nm_ne_blk h.gs h.blk)), loAt_keep hl (fun b e => ?_), fnsS_keep h.fn (fun b hb => ⟨hb, K.block b (h.lt b hb).1 (h.lt b hb).2⟩) (fun g hg => ?_), fun b hb => ⟨Nat.lt_of_lt_of_le (h.lt b hb).1 K.size, (h.lt b hb).2⟩, h.lb.1, h.lb.2.1, hB, h.lb.2.2.2⟩
  · rcases hl with ⟨e2, _⟩ | ⟨b', e2, hn⟩
    · rw [e] at e2; cases e2
    · rw [e] at e2; cases e2; exact K.block b (nmAt_lt hn) (nm_ne_blk hn h.blk)
  · obtain ⟨cur, hc⟩ := fnsS_lt h.fn hg
    refine ⟨K.block g (blk_lt hc) (fun e => ?_), by obtain ⟨cs, _, _, h6⟩ := h.fn; exact h6 g hg⟩
    have hb : a.heap[r]? = _ := h.blk
    have hc2 : a.heap[g]? = _ := hc
    rw [show g = r from e, hb] at hc2; cases hc2
/-- names declared -/
theorem Rs.named {B r gm gn : Nat} {fv : Value} {gl lo lo' : List ByteArray} {fs : List Fp} {ok : Nat → Prop} {a c : World} (h : Rs B r gm (.map (some gn)) fv gl lo fs ok a) (k : Keep (fun b => b = gn) a c) (hn : NmAt gn lo' c) (h1 : gm ≠ gn) (h2 : ∀ b, ok b → b ≠ gn) : Rs B r gm (.map (some gn)) fv gl lo' fs ok c := by
  have hna : NmAt gn lo a := by
    rcases h.ls with ⟨e2, _⟩ | ⟨b', e2, hn⟩
    · cases e2
    · cases e2; exact hn
  refine ⟨blk_keep h.blk k (fun e => nm_ne_blk hna h.blk e.symm), nmAt_keep h.gs (k.block gm (nmAt_lt h.gs) h1), .inr ⟨gn, rfl, hn⟩, fnsS_keep h.fn (fun b hb => ⟨hb, k.block b (h.lt b hb).1 (h2 b hb)⟩) (fun g hg => ?_), fun b hb => ⟨Nat.lt_of_lt_of_le (h.lt b hb).1 k.size, (h.lt b hb).2⟩, h.lb⟩
  obtain ⟨cur, hc⟩ := fnsS_lt h.fn hg
  exact ⟨k.block g (blk_lt hc) (fun e => nm_ne_blk hna hc e.symm), by obtain ⟨cs, _, _, h6⟩ := h.fn; exact h6 g hg⟩

theorem Bad.pass {r gm n : Nat} {fv : Value} {w a c : World} {T : Nat → Prop} (h : Bad r gm fv n w a) (k : Keep T a c) (hr : r < w.heap.size) (hT : ∀ b, T b → w.heap.size ≤ b ∧ ∀ cs, ¬ Blk b 45 cs a) : Bad r gm fv n w c := by
  obtain ⟨lv', fv', L, cs, h1, h2, h3, h4⟩ := h.left
  refine ⟨h.keep.trans k (fun i hi e => by have := (hT i e).1; omega), lv', fv', L, cs, blk_keep h1 k (fun e => by have := (hT r e).1; omega), h2, row_keep h3 (fun g hg => ?_), h4⟩
  obtain ⟨cur, hc⟩ := row_lt h3 hg
  exact k.block g (blk_lt hc) (fun e => (hT g e).2 _ hc)
theorem blk_not {b : Nat} {ty ty' : TypeId} {cs : Array Value} {a : World} (h : Blk b ty cs a) (hn : ty ≠ ty') : ∀ cs', ¬ Blk b ty' cs' a := fun cs' h' => by
  have h1 : a.heap[b]? = _ := h
  have h2 : a.heap[b]? = _ := h'
  rw [h1] at h2
  simp only [Option.some.injEq, Obj.cells.injEq] at h2
  exact hn h2.2.1
theorem infoF : ∃ i0, Tryd.prog.info? 45 = some i0 ∧ i0.zero = some (.agg #[.int .i64 0, .int .i64 0, .slice none 0 0]) ∧ i0.size = 3 ∧ i0.bytes = 40 :=
  info_parts (show (Tryd.prog.info? 45).map (fun i => (i.zero, i.size, i.bytes)) = some (some (.agg #[.int .i64 0, .int .i64 0, .slice none 0 0]), 3, 40) by kernel_rfl)
theorem underF : Tryd.prog.underlying 28 = some (.slice 45) := by kernel_rfl
theorem yield_nlen {o : Oper} {a : Act} {w : World} {mo : Operand} {m : Nat} {l : List ByteArray} (hop : o.op = Op.call { callee := Callee.builtin Builtin.len, args := #[mo], argTypes := #[49] })
    (hm : a.eval mo = .map (some m)) (hM : NmAt m l w) : (execOp a.eval o).run Tryd.prog w = .ok (.value (.int .i64 l.length)) w := by
  simp [execOp, hop, resolve, invoke, builtin, hm, gm_run underNm hM, Result.andThen]
/-- one function more -/
theorem Rs.more {B r gm g cp : Nat} {lv fv : Value} {gl lo : List ByteArray} {fs : List Fp} {ok : Nat → Prop} {a c w3 : World} {cs : List Value} {P L : Nat} (h : Rs B r gm lv fv gl lo fs ok a) (hfr : FRow ok a fs cs) (hnk : ∀ g, fv.ownBlock = some g → ¬ ok g)
    (BL : Below a.heap.size a c) (hgrow : c.grownBy w3 fv.ownBlock) (hown : w3.ownsRow 0 45 3 (.slice (some ⟨g, 0, none⟩) (fs.length + 1) cp) (fs.length + 1) (cs ++ [.int .i64 (P : Int), .int .i64 (L : Int), .slice none 0 0])) (hat : fv.ownBlock = some g ∨ c.heap.size ≤ g) :
    Keep (fun b => fv.ownBlock = some b) a w3 ∧ Blk r 51 #[.map (some gm), lv, fv] w3 ∧
    Rs B r gm lv (.slice (some ⟨g, 0, none⟩) (fs.length + 1) cp) gl lo (fs ++ [(P, L, [])]) ok (w3.setCell ⟨r, 2, none⟩ (.slice (some ⟨g, 0, none⟩) (fs.length + 1) cp)) ∧
    Keep (RT r fv) a (w3.setCell ⟨r, 2, none⟩ (.slice (some ⟨g, 0, none⟩) (fs.length + 1) cp)) := by
  have KG : Keep (fun b => fv.ownBlock = some b) a w3 := (Keep.of (S := fun b => fv.ownBlock = some b) BL).trans (Keep.grown hgrow (fun k e => e)) (fun _ _ h => h)
  have K2 := Keep.set (S := fun b => b = r) rfl w3 2 (.slice (some ⟨g, 0, none⟩) (fs.length + 1) cp)
  have KA : Keep (RT r fv) a (w3.setCell ⟨r, 2, none⟩ (.slice (some ⟨g, 0, none⟩) (fs.length + 1) cp)) := (KG.mono (T := RT r fv) (fun i _ e => .inr e)).trans K2 (fun i _ e => .inl e)
  have hro : ∀ b, fv.ownBlock = some b → ∃ cur, Blk b 45 cur a := fun b e => fnsS_lt h.fn e
  have hrr : ¬ fv.ownBlock = some r := fun e => by
    obtain ⟨cur, hc⟩ := hro r e
    exact blk_not h.blk (by decide) _ hc
  have hm : ∀ m l, NmAt m l a → ¬ RT r fv m := fun m l hm e => by
    rcases e with e | e
    · exact nm_ne_blk hm h.blk e
    · obtain ⟨cur, hc⟩ := hro m e
      exact nm_ne_blk hm hc rfl
  have R3 := blk_keep h.blk KG hrr
  have hgr : g ≠ r := fun e => by
    obtain ⟨cur, hc⟩ := row_lt hown (g := g) rfl
    rw [e] at hc
    exact blk_not R3 (by decide) _ hc
  have ho : ∀ b, ok b → ¬ RT r fv b := fun b hb e => by
    rcases e with e | e
    · exact (h.lt b hb).2 e
    · exact hnk b e hb
  refine ⟨KG, R3, ⟨by simpa using blk_set R3 2 (.slice (some ⟨g, 0, none⟩) (fs.length + 1) cp), nmAt_keep h.gs (KA.block gm (nmAt_lt h.gs) (hm _ _ h.gs)), loAt_keep h.ls (fun b e => ?_), ?_, fun b hb => ⟨Nat.lt_of_lt_of_le (h.lt b hb).1 KA.size, (h.lt b hb).2⟩, h.lb.1, h.lb.2.1, h.lb.2.2.1, fun g' hg' => ?_, h.lb.2.2.2.2⟩, KA⟩
  · rcases h.ls with ⟨e2, _⟩ | ⟨b', e2, hn⟩
    · rw [e] at e2; cases e2
    · rw [e] at e2; cases e2
      exact KA.block b (nmAt_lt hn) (hm _ _ hn)
  · refine ⟨cs ++ [.int .i64 (P : Int), .int .i64 (L : Int), .slice none 0 0], ?_, frow_snoc (x := (P, L, [])) (.inl ⟨none, 0, rfl, rfl⟩) (frow_keep (fun b hb => ⟨hb, KA.block b (h.lt b hb).1 (ho b hb)⟩) hfr), fun g' hg' => ?_⟩
    · rw [List.length_append]
      exact row_keep hown (fun g' hg' => by
        simp [Value.ownBlock] at hg'
        subst hg'
        obtain ⟨cur, hc⟩ := row_lt hown (g := g) rfl
        exact K2.block g (blk_lt hc) hgr)
    · simp [Value.ownBlock] at hg'
      subst hg'
      rcases hat with h1 | h1
      · exact hnk _ h1
      · exact fun h2 => by have := (h.lt _ h2).1; have := BL.size; omega
  · simp [Value.ownBlock] at hg'
    subst hg'
    rcases hat with h1 | h1
    · exact h.lb.2.2.2.1 _ h1
    · have := h.lb.1; have := blk_lt h.blk; have := BL.size; omega

/-- the end of a function whose body has an error -/
theorem fun_bad {r gm g m cp n j : Nat} {fv lv8 u lq : Value} {w w7 w8 wx : World} {g8 L8 c8 : Nat} {cs8 : List Value} (hK : Keep (RT r fv) w w7) (hG : fv.ownBlock = some g ∨ w.heap.size ≤ g)
    (K8 : Keep (RT r (.slice (some ⟨g, 0, none⟩) m cp)) w7 w8) (hb8 : Blk r 51 #[.map (some gm), lv8, .slice (some ⟨g8, 0, none⟩) L8 c8] w8) (hL : n ≤ L8) (hrow : w8.ownsRow 0 45 3 (.slice (some ⟨g8, 0, none⟩) L8 c8) L8 cs8)
    (hat : ∀ g', (Value.slice (some ⟨g8, 0, none⟩) L8 c8).ownBlock = some g' → (Value.slice (some ⟨g, 0, none⟩) m cp).ownBlock = some g' ∨ w7.heap.size ≤ g') (A : Below w8.heap.size w8 wx) :
    Bad r gm fv n w ((wx.setCell ⟨g8, j, none⟩ u).setCell ⟨r, 1, none⟩ lq) := by
  have hz7 := hK.size
  have h8 : fv.ownBlock = some g8 ∨ w.heap.size ≤ g8 := by
    rcases hat g8 rfl with h | h
    · simp [Value.ownBlock] at h
      subst h
      exact hG
    · exact .inr (by omega)
  have hg8r : g8 ≠ r := fun e => by
    obtain ⟨cur, hc⟩ := row_lt hrow (g := g8) rfl
    rw [e] at hc
    exact blk_not hb8 (by decide) _ hc
  have K1 : Keep (RT r fv) w w8 := hK.trans K8 (fun i hi e => by
    rcases e with e | e
    · exact .inl e
    · simp [Value.ownBlock] at e
      subst e
      rcases hG with h | h
      · exact .inr h
      · omega)
  have KX := Keep.set (S := fun b => b = g8) rfl wx j u
  have KR := Keep.set (S := fun b => b = r) rfl (wx.setCell ⟨g8, j, none⟩ u) 1 lq
  have rowx := row_keep hrow (fun g' hg' => A.block g' (by obtain ⟨cur, hc⟩ := row_lt hrow hg'; exact blk_lt hc))
  refine ⟨((K1.trans (Keep.of (S := RT r fv) A) (fun _ _ h => h)).trans KX (fun i hi e => ?_)).trans KR (fun i _ e => .inl e), lq, .slice (some ⟨g8, 0, none⟩) L8 c8, L8, cs8.set j u, ?_, hL, ?_, ?_⟩
  · rcases h8 with h | h
    · exact .inr (by rw [show i = g8 from e]; exact h)
    · have : i = g8 := e
      omega
  · simpa using blk_set (blk_keep (blk_on hb8 A) KX (fun e => hg8r e.symm)) 1 lq
  · refine row_keep (row_set rowx j u) (fun g' hg' => ?_)
    simp [Value.ownBlock] at hg'
    subst hg'
    obtain ⟨cur, hc⟩ := row_lt (row_set rowx j u) (g := g8) rfl
    exact KR.block g8 (blk_lt hc) hg8r
  · intro g' hg'
    simp [Value.ownBlock] at hg'
    subst hg'
    exact h8
/-- the blocks laid first stay, behind the body -/
theorem laid_body {k o n : Int} {s : ByteArray} {nv kv : Value} {p : Int} {r g m cp b0 : Nat} {w7 w8 : World} {cur : Array Value} (h : Laid k o n s nv kv p b0 w7) (hr : r < b0) (hg : Blk g 45 cur w7) (K8 : Keep (RT r (.slice (some ⟨g, 0, none⟩) m cp)) w7 w8) : Laid k o n s nv kv p b0 w8 := by
  have hn : ∀ (b : Nat) (ty : TypeId) (cs : Array Value), b0 ≤ b → ty ≠ 45 → Blk b ty cs w7 → ¬ RT r (.slice (some ⟨g, 0, none⟩) m cp) b := fun b ty cs hb hty hbl e => by
    rcases e with e | e
    · omega
    · simp [Value.ownBlock] at e
      subst e
      exact blk_not hbl hty _ hg
  exact ⟨blk_keep h.box K8 (hn _ _ _ (Nat.le_refl _) (by decide) h.box), blk_keep h.out K8 (hn _ _ _ (by omega) (by decide) h.out), blk_keep h.flt K8 (hn _ _ _ (by omega) (by decide) h.flt)⟩

/-- a body is laid -/
theorem Rs.body {B r gm g8 c8 i P L : Nat} {lv kv : Value} {gl lo : List ByteArray} {fs : List Fp} {l b0 : List Nd} {ok okR : Nat → Prop} {a : World} (h : Rs B r gm lv (.slice (some ⟨g8, 0, none⟩) fs.length c8) gl lo fs ok a) (hks : KidsS okR a kv l) (hok : ∀ b, okR b → b < a.heap.size ∧ b ≠ r ∧ b ≠ g8 ∧ B ≤ b) (hi : fs[i]? = some (P, L, b0)) :
    Rs B r gm lv (.slice (some ⟨g8, 0, none⟩) fs.length c8) gl lo (fs.set i (P, L, l)) (fun b => ok b ∨ okR b) (a.setCell ⟨g8, i * 3 + 2, none⟩ kv) := by
  obtain ⟨cs, h1, h2, h3⟩ := h.fn
  obtain ⟨cur, hc⟩ := row_lt h1 (g := g8) rfl
  have K := Keep.set (S := fun b => b = g8) rfl a (i * 3 + 2) kv
  have hg8r : g8 ≠ r := fun e => by
    rw [e] at hc
    exact blk_not h.blk (by decide) _ hc
  have hk1 : ∀ b, ok b → (ok b ∨ okR b) ∧ (a.setCell ⟨g8, i * 3 + 2, none⟩ kv).heap[b]? = a.heap[b]? := fun b hb => ⟨.inl hb, K.block b (h.lt b hb).1 (fun e => h3 g8 rfl (by rw [← (show b = g8 from e)]; exact hb))⟩
  have hk2 : ∀ b, okR b → (ok b ∨ okR b) ∧ (a.setCell ⟨g8, i * 3 + 2, none⟩ kv).heap[b]? = a.heap[b]? := fun b hb => ⟨.inr hb, K.block b (hok b hb).1 (hok b hb).2.2.1⟩
  refine ⟨blk_keep h.blk K (fun e => hg8r e.symm), nmAt_keep h.gs (K.block gm (nmAt_lt h.gs) (fun e => nm_ne_blk h.gs hc e)), loAt_keep h.ls (fun b e => ?_), ⟨cs.set (i * 3 + 2) kv, ?_, frow_set (kidsS_keep hk2 hks) (frow_keep hk1 h2) hi, fun g hg => ?_⟩, fun b hb => ?_, h.lb.1, h.lb.2.1, h.lb.2.2.1, h.lb.2.2.2.1, fun b hb => ?_⟩
  · rcases h.ls with ⟨e2, _⟩ | ⟨b', e2, hn⟩
    · rw [e] at e2; cases e2
    · rw [e] at e2; cases e2
      exact K.block b (nmAt_lt hn) (fun e => nm_ne_blk hn hc e)
  · rw [List.length_set]
    exact row_set h1 _ _
  · simp [Value.ownBlock] at hg
    subst hg
    rintro (h4 | h4)
    · exact h3 _ rfl h4
    · exact (hok _ h4).2.2.1 rfl
  · rcases hb with hb | hb
    · exact ⟨Nat.lt_of_lt_of_le (h.lt b hb).1 K.size, (h.lt b hb).2⟩
    · exact ⟨Nat.lt_of_lt_of_le (hok b hb).1 K.size, (hok b hb).2.1⟩
  · rcases hb with hb | hb
    · exact h.lb.2.2.2.2 b hb
    · exact (hok b hb).2.2.2
/-- the end of a function -/
theorem fun_ok {B r gm gn g m cp i P L g8 c8 : Nat} {lv fv kv : Value} {gl lo own : List ByteArray} {fs fs3 : List Fp} {l b0 : List Nd} {ok okR3 ok3 : Nat → Prop} {w w7 w8 wx : World} (h0 : Rs B r gm lv fv gl lo fs ok w) (hK : Keep (RT r fv) w w7) (hG : fv.ownBlock = some g ∨ w.heap.size ≤ g)
    (hW : Went B r gm (.map (some gn)) (.slice (some ⟨g, 0, none⟩) m cp) (.slice (some ⟨g8, 0, none⟩) fs3.length c8) gl own fs3 ok okR3 ok3 w7 w8) (hks : KidsS okR3 w8 kv l) (hi : fs3[i]? = some (P, L, b0)) (A : Below w8.heap.size w8 wx) :
    Went B r gm lv fv (.slice (some ⟨g8, 0, none⟩) fs3.length c8) gl lo (fs3.set i (P, L, l)) ok (fun _ => False) (fun b => ok3 b ∨ okR3 b) w ((wx.setCell ⟨g8, i * 3 + 2, none⟩ kv).setCell ⟨r, 1, none⟩ lv) := by
  have hz7 := hK.size
  have hz8 := hW.keep.size
  have hzx := A.size
  have hr := blk_lt h0.blk
  have hBr := h0.lb.1
  have h8 : fv.ownBlock = some g8 ∨ w.heap.size ≤ g8 := by
    rcases hW.row g8 rfl with h | h
    · simp [Value.ownBlock] at h
      subst h
      exact hG
    · exact .inr (by omega)
  have R1 := (hW.rs.on A).body (kidsS_keep (ok' := okR3) (fun b hb => ⟨hb, A.block b (hW.new b hb).2.1⟩) hks) (fun b hb => by
    have := hW.new b hb
    refine ⟨by omega, by omega, fun e => this.2.2 (by rw [e]; rfl), by omega⟩) hi
  have KX := Keep.set (S := fun b => b = g8) rfl wx (i * 3 + 2) kv
  have K1 : Keep (RT r fv) w w8 := hK.trans hW.keep (fun i hi e => by
    rcases e with e | e
    · exact .inl e
    · simp [Value.ownBlock] at e
      subst e
      rcases hG with h | h
      · exact .inr h
      · omega)
  have K2 : Keep (RT r fv) w (wx.setCell ⟨g8, i * 3 + 2, none⟩ kv) := (K1.trans (Keep.of (S := RT r fv) A) (fun _ _ h => h)).trans KX (fun i hi e => by
    rcases h8 with h | h
    · exact .inr (by rw [show i = g8 from e]; exact h)
    · have : i = g8 := e
      omega)
  have R2 := R1.relocal (lv' := lv) (lo' := lo) (loAt_keep h0.ls (fun b e => by
    rcases h0.ls with ⟨e2, _⟩ | ⟨b', e2, hn⟩
    · rw [e] at e2; cases e2
    · rw [e] at e2; cases e2
      refine K2.block b (nmAt_lt hn) (fun e3 => ?_)
      rcases e3 with e3 | e3
      · exact nm_ne_blk hn h0.blk e3
      · obtain ⟨cur, hc⟩ := fnsS_lt h0.fn e3
        exact nm_ne_blk hn hc rfl)) h0.lb.2.2.1
  refine ⟨R2, K2.trans (Keep.set (S := fun b => b = r) rfl _ 1 lv) (fun i _ e => .inl e), fun b hb => hb.elim, fun b hb => ?_, fun g' hg' => ?_, by rw [List.length_set]; exact hW.few⟩
  · rcases hb with hb | hb
    · rcases hW.old b hb with h | h
      · exact .inl h
      · exact .inr (by omega)
    · exact .inr (by have := (hW.new b hb).1; omega)
  · simp [Value.ownBlock] at hg'
    subst hg'
    exact h8

end Go.Proofs.YtmihckhflbepjaaDoor
