/- The heap in memory: shapes' names, objects of slots, dictionaries. What holds of a heap behind Set, Delete, SetProto, Put, Grow. -/
import Derived.Test.YtemidicgipebjaaGreatJoint2
import Derived.Test.YtemidicgipebjaaGreatHpPlain
import Derived.Test.YtemidicgipebjaaGreatJoint8
import Derived.Test.YtemidicgipebjaaGreatJoint7
import Derived.Test.YtemidicgipebjaaGreatJoint10
namespace Go.Proofs.YtemidicgipebjaaGreat
set_option linter.unusedSimpArgs false
set_option maxRecDepth 100000
open Go.RowKit

theorem cell_on {g i : Nat} {v : Value} {a c : World} (h : a.cell? ⟨g, i, none⟩ = some v) (hg : g < a.heap.size) (k : Below a.heap.size a c) : c.cell? ⟨g, i, none⟩ = some v := (k.cell (p := ⟨g, i, none⟩) hg).trans h
theorem cell_keep {S : Nat → Prop} {g i : Nat} {v : Value} {a c : World} (h : a.cell? ⟨g, i, none⟩ = some v) (hg : g < a.heap.size) (k : Keep S a c) (hp : ¬ S g) : c.cell? ⟨g, i, none⟩ = some v := by
  have e := k.block g hg hp
  unfold World.cell? at h ⊢
  simp only [e]
  exact h

/-- names and shapes of a heap: names in blocks of colour 2, shapes in blocks of colour 3 -/
structure Cls (H : He) (c n f : Nat) (col : Nat → Nat) (w : World) : Prop where
  blk : Blk c 112 #[.pointer (some ⟨n, 0, none⟩), .pointer (some ⟨f, 0, none⟩)] w
  nm : NmS (fun b => col b = 2) n H.N w
  fo : FoS (fun b => col b = 3) f H.M H.L w
theorem Cls.on {H : He} {c n f : Nat} {col : Nat → Nat} {a b : World} (h : Cls H c n f col a) (k : Below a.heap.size a b) : Cls H c n f col b := ⟨blk_on h.blk k, h.nm.on k, h.fo.on k⟩
theorem Cls.keep {S : Nat → Prop} {H : He} {c n f : Nat} {col : Nat → Nat} {a b : World} (h : Cls H c n f col a) (k : Keep S a b) (hc : ¬ S c) (hS : ∀ x, x < a.heap.size → col x = 2 ∨ col x = 3 → ¬ S x) : Cls H c n f col b :=
  ⟨blk_keep h.blk k hc, h.nm.keep k (fun x hx e => hS x hx (.inl e)), h.fo.keep k (fun x hx e => hS x hx (.inr e))⟩
theorem Cls.mono {H : He} {c n f : Nat} {col col' : Nat → Nat} {w : World} (h : Cls H c n f col w) (he : ∀ b, b < w.heap.size → col' b = col b) : Cls H c n f col' w :=
  ⟨h.blk, h.nm.mono (fun b hb e => (he b hb).trans e), h.fo.mono (fun b hb e => (he b hb).trans e)⟩
theorem Cls.cells {H : He} {c n f : Nat} {col : Nat → Nat} {w : World} (h : Cls H c n f col w) : w.cell? ⟨c, 0, none⟩ = some (.pointer (some ⟨n, 0, none⟩)) ∧ w.cell? ⟨c, 1, none⟩ = some (.pointer (some ⟨f, 0, none⟩)) ∧ c < w.heap.size :=
  ⟨by rw [blk_cell h.blk]; rfl, by rw [blk_cell h.blk]; rfl, blk_lt h.blk⟩
theorem cslot_calls {H : He} {c n f : Nat} {col : Nat → Nat} (w : World) (h : Cls H c n f col w) (id : Int) (s : ByteArray) (hs : s.size ≤ 1000000) :
    Calls Tryz.prog 55 #[.pointer (some ⟨c, 0, none⟩), .int .i64 id, .string s] w fun e w' => e = .returned (.int .i64 (slotN H.N H.L id s)) ∧ Below w.heap.size w w' := by
  have HF := hid (tfind_calls w h.nm s (by unfold maxLen; omega))
  obtain ⟨c0, c1, hc⟩ := h.cells
  cases ha : atT H.N s with
  | none =>
    rw [show slotN H.N H.L id s = -1 by unfold slotN; rw [ha]]
    rw [ha, show findT H.N s = 0 by unfold findT; rw [ha]] at HF
    clear h
    go_enter Tryz.func55, Tryz.ntmps55
    go_wp2_with fail
    refine HF.out.mono ?_
    rintro e1 w1 ⟨rfl, rfl⟩
    go_wp2_with fail
    go_ret
    exact ⟨rfl, Below.refl _ _⟩
  | some i =>
    rw [show slotN H.N H.L id s = slotF H.L id ((i + 1 : Nat) : Int) by unfold slotN; rw [ha]]
    rw [ha, show findT H.N s = i + 1 by unfold findT; rw [ha]] at HF
    have HS := hid (fslot_calls w h.fo id ((i + 1 : Nat) : Int))
    clear h ha
    generalize ((i + 1 : Nat) : Int) = j at *
    go_enter Tryz.func55, Tryz.ntmps55
    go_wp2_with fail
    refine HF.out.mono ?_
    rintro e1 w1 ⟨rfl, rfl⟩
    go_wp2_with fail
    refine HS.out.mono ?_
    rintro e2 w2 ⟨rfl, b2⟩
    have B2 := hid b2
    clear b2
    go_wp2_with fail
    go_ret
    exact ⟨rfl, B2.out⟩

/-- an object of slots at q -/
structure SlAt (c : Nat) (sh : Int) (l : List Ent) (q : Nat) (v : Value) (w : World) : Prop where
  blk : Blk q 91 #[.pointer (some ⟨c, 0, none⟩), .int .i64 sh, v] w
  row : w.ownsRow 0 26 3 v l.length (valsC l)
def FtL (q : Nat) (v : Value) (b : Nat) : Prop := b = q ∨ v.ownBlock = some b
theorem SlAt.keep {c q : Nat} {sh : Int} {l : List Ent} {v : Value} {a b : World} (h : SlAt c sh l q v a) (hk : ∀ x, FtL q v x → b.heap[x]? = a.heap[x]?) : SlAt c sh l q v b :=
  ⟨(hk q (.inl rfl)).trans h.blk, row_keep h.row (fun g hg => hk g (.inr hg))⟩
theorem SlAt.lt {c q b : Nat} {sh : Int} {l : List Ent} {v : Value} {w : World} (h : SlAt c sh l q v w) (hb : FtL q v b) : b < w.heap.size := by
  rcases hb with rfl | hb
  · exact blk_lt h.blk
  · obtain ⟨cur, hc⟩ := row_lt h.row hb
    exact blk_lt hc
theorem SlAt.on {c q : Nat} {sh : Int} {l : List Ent} {v : Value} {a b : World} (h : SlAt c sh l q v a) (k : Below a.heap.size a b) : SlAt c sh l q v b := h.keep fun x hx => k.block x (h.lt hx)
theorem SlAt.ne {c q : Nat} {sh : Int} {l : List Ent} {v : Value} {w : World} (h : SlAt c sh l q v w) {g : Nat} (hg : v.ownBlock = some g) : g ≠ q := fun e => by
  obtain ⟨cur, hc⟩ := row_lt h.row hg
  exact absurd (blk_type hc (e ▸ h.blk)) (by decide)
theorem SlAt.cells {c q : Nat} {sh : Int} {l : List Ent} {v : Value} {w : World} (h : SlAt c sh l q v w) : w.cell? ⟨q, 0, none⟩ = some (.pointer (some ⟨c, 0, none⟩)) ∧ w.cell? ⟨q, 1, none⟩ = some (.int .i64 sh) ∧ w.cell? ⟨q, 2, none⟩ = some v ∧ q < w.heap.size :=
  ⟨by rw [blk_cell h.blk]; rfl, by rw [blk_cell h.blk]; rfl, by rw [blk_cell h.blk]; rfl, blk_lt h.blk⟩
theorem SlAt.value {c q i : Nat} {sh : Int} {l : List Ent} {v : Value} {e : Ent} {w : World} (h : SlAt c sh l q v w) (hi : l[i]? = some e) :
    ∃ g cap, v = .slice (some ⟨g, 0, none⟩) l.length cap ∧ g < w.heap.size ∧ w.cell? ⟨g, i * 3, none⟩ = some (.int .i64 e.2.1) ∧ w.cell? ⟨g, i * 3 + 1, none⟩ = some (.int .i64 e.2.2.1) ∧ w.cell? ⟨g, i * 3 + 2, none⟩ = some (.string e.2.2.2) ∧ ∀ j, w.frozen? ⟨g, j, none⟩ = false := by
  have hl : i < l.length := lt_of_get hi
  obtain ⟨g, cap, rfl, _, hg⟩ := h.row.form (by omega)
  exact ⟨g, cap, rfl, hg, row_cell h.row (valsC_at (j := 0) hi (by omega)), row_cell h.row (valsC_at (j := 1) hi (by omega)), row_cell h.row (valsC_at (j := 2) hi (by omega)), fun j => row_free h.row j⟩

def vlO (o : Option Vl) : Vl := o.getD vl0
theorem slotL_some {l : List Ent} {i : Int} {v : Vl} (h : slotL l i = some v) : ∃ (k : Nat) (s : ByteArray), i = (k : Int) ∧ l[k]? = some (s, v) := by
  unfold slotL at h
  split at h
  · cases hg : l[i.toNat]? with
    | none => rw [hg] at h; cases h
    | some e =>
      rw [hg] at h
      obtain ⟨s, u⟩ := e
      have : u = v := by simpa using h
      subst this
      exact ⟨i.toNat, s, by omega, hg⟩
  · cases h
theorem slotL_none {l : List Ent} {i : Int} (h : slotL l i = none) : i < 0 ∨ (l.length : Int) ≤ i := by
  unfold slotL at h
  split at h
  · cases hg : l[i.toNat]? with
    | none => have := List.getElem?_eq_none_iff.1 hg; omega
    | some e => rw [hg] at h; cases h
  · omega
theorem slotL_at {l : List Ent} {k : Nat} {s : ByteArray} {v : Vl} (h : l[k]? = some (s, v)) : slotL l (k : Int) = some v := by
  unfold slotL
  rw [if_pos (by omega)]
  simp [h]

set_option maxHeartbeats 1000000 in
theorem svalue_calls {c q : Nat} {sh : Int} {l : List Ent} {v : Value} (w : World) (h : SlAt c sh l q v w) (i : Int) :
    Calls Tryz.prog 54 #[.pointer (some ⟨q, 0, none⟩), .int .i64 i] w fun e w' => e = .returned (.tuple #[vlV (vlO (slotL l i)), .bool (slotL l i).isSome]) ∧ Below w.heap.size w w' := by
  obtain ⟨c0, c1, c2, hq⟩ := h.cells
  cases hs : slotL l i with
  | none =>
    obtain ⟨ao, cap, rfl⟩ := row_shape h.row
    have hn := slotL_none hs
    clear h hs
    by_cases h0 : i < 0
    · go_enter Tryz.func54, Tryz.ntmps54
      go_wp2_with fail
      exact bodyPost_ret (ret_ve rfl rfl ⟨by simp [vl0, vlO], by simp [vl0, vlO], by simp [vl0, vlO]⟩) rfl ⟨rfl, (Below.refl _ _).alloc (Nat.le_refl _) _⟩
    · have h1 : (l.length : Int) ≤ i := by omega
      clear hn
      go_enter Tryz.func54, Tryz.ntmps54
      go_wp2_with fail
      exact bodyPost_ret (ret_ve rfl rfl ⟨by simp [vl0, vlO], by simp [vl0, vlO], by simp [vl0, vlO]⟩) rfl ⟨rfl, (Below.refl _ _).alloc (Nat.le_refl _) _⟩
  | some u =>
    obtain ⟨k, s, rfl, hk⟩ := slotL_some hs
    obtain ⟨g, cap, rfl, hg, v0, v1, v2, _⟩ := h.value hk
    have hl : k < l.length := lt_of_get hk
    clear h hs hk
    go_enter Tryz.func54, Tryz.ntmps54
    go_wp2_with fail
    exact bodyPost_ret (ret_ve rfl rfl ⟨by simp [vlO], by simp [vlO], by simp [vlO]⟩) rfl ⟨rfl, (Below.refl _ _).alloc (Nat.le_refl _) _⟩
theorem scount_calls {c q : Nat} {sh : Int} {l : List Ent} {v : Value} (w : World) (h : SlAt c sh l q v w) :
    Calls Tryz.prog 65 #[.pointer (some ⟨q, 0, none⟩)] w fun e w' => e = .returned (.int .i64 (l.length : Int)) ∧ w' = w := by
  obtain ⟨c0, c1, c2, hq⟩ := h.cells
  obtain ⟨ao, cap, rfl⟩ := row_shape h.row
  clear h
  go_enter Tryz.func65, Tryz.ntmps65
  go_wp2_with fail
  go_ret
  exact ⟨rfl, rfl⟩
set_option maxHeartbeats 1000000 in
theorem sproto_calls {H : He} {c n f q : Nat} {col : Nat → Nat} {sh : Int} {l : List Ent} {v : Value} (w : World) (C : Cls H c n f col w) (h : SlAt c sh l q v w) :
    Calls Tryz.prog 115 #[.pointer (some ⟨q, 0, none⟩)] w fun e w' => e = .returned (.int .i64 (protoF H.L sh)) ∧ Below w.heap.size w w' := by
  obtain ⟨c0, c1, c2, hq⟩ := h.cells
  obtain ⟨d0, d1, hc⟩ := C.cells
  have HP := hid (fproto_calls w.drew (C.fo.on (Below.refl _ _).drew) sh)
  clear h C
  go_enter Tryz.func115, Tryz.ntmps115
  go_wp2_with fail
  refine wp_region_held_drew (S := fun a => a.cell? ⟨q, 0, none⟩ = some (.pointer (some ⟨c, 0, none⟩)) ∧ a.cell? ⟨q, 1, none⟩ = some (.int .i64 sh) ∧ a.cell? ⟨c, 1, none⟩ = some (.pointer (some ⟨f, 0, none⟩))) (by kernel_rfl) ?_ (fun hHeld => ?_)
  · (refine ⟨?_, ?_, ?_⟩ <;> go_simp)
  refine tkk 0 ?_
  refine tkk 1 ?_
  refine tkk 2 ?_
  refine tkk 3 ?_
  refine tkk 4 ?_
  refine tkk 5 ?_
  refine tkk 6 ?_
  refine tkk 7 ?_
  refine tkk 8 ?_
  refine tkk 9 ?_
  refine tkk 10 ?_
  refine rdy 11 (fun K hK => ?_)
  go_simp
  refine HP.out.mono ?_
  rintro e1 w1 ⟨rfl, rfl⟩
  go_simp
  refine hK.out _ _ ?_ (fun _ => ?_)
  · (refine ⟨?_, ?_, ?_⟩ <;> (first | assumption | go_simp))
  clear hK K
  refine tkk 12 ?_
  refine tkk 13 ?_
  refine tkk 14 ?_
  refine tkk 15 ?_
  refine tkk 16 ?_
  refine wpAnyH_done (by kernel_rfl) ?_ _
  go_wp2_with fail
  go_ret
  exact ⟨rfl, (Below.refl _ _).drew⟩

end Go.Proofs.YtemidicgipebjaaGreat

namespace Go.Proofs.YtemidicgipebjaaGreat
set_option linter.unusedSimpArgs false
open Go.RowKit

theorem add_spec {M : Nat} {L : List Sh} {id x : Int} {s : Sh} (h : WfS M L) (hg : getS L id = some s) (h0 : addN M L id x ≠ 0) : getS (addL M L id x) (addN M L id x : Int) = some (s.1, s.2 ++ [x]) ∧ x ∉ s.2 := by
  have e1 : addN M L id x = if 12 ≤ s.2.length ∨ x ∈ s.2 then 0 else ofN M L (s.1, s.2 ++ [x]) := by unfold addN; rw [hg]
  have e2 : addL M L id x = if 12 ≤ s.2.length ∨ x ∈ s.2 then L else ofL M L (s.1, s.2 ++ [x]) := by unfold addL; rw [hg]
  by_cases hc : 12 ≤ s.2.length ∨ x ∈ s.2
  · rw [e1, if_pos hc] at h0
    exact absurd rfl h0
  · rw [e1, if_neg hc] at h0 ⊢
    rw [e2, if_neg hc]
    rcases of_spec (s.1, s.2 ++ [x]) h with ⟨j, f1, f2⟩ | ⟨f1, _⟩
    · rw [f1, getS_succ]
      exact ⟨f2, fun h => hc (.inr h)⟩
    · exact absurd f1 h0
theorem ok_more {l : List Ent} {s : ByteArray} (v : Vl) (hs : s.size ≤ 1000000) (h : OkL l) (hh : hasL l s = false) : OkL (l ++ [(s, v)]) := by
  rw [← setL_new v hh]
  exact ok_set v hs h
theorem set_wf {K : Nat} {H : He} {i : Nat} {x : Ob} (h : WfH K H) (hK : K ≤ 900000) (hi : H.os[i]? = some x) (nm : ByteArray) (hn : nm.size ≤ 1000000) (hh : hasL x.l nm = false) (hl : x.l.length < H.props) (u : Vl) :
    WfH (K + 1) (putI (nextH H x.sh nm) i { x with l := x.l ++ [(nm, u)], ep := x.ep + 1, sh := nextN H x.sh nm }) := by
  have W := next_wf h hK x.sh nm hn
  have hos : (nextH H x.sh nm).os = H.os := by unfold nextH; split <;> rfl
  have hi' : (nextH H x.sh nm).os[i]? = some x := by rw [hos]; exact hi
  have hx := h.obs i x hi
  refine put_wf W ?_ (put_ends W hi' rfl)
  refine ⟨ok_more u hn hx.ok hh, by have := h.props; simp; omega, by have := hx.ep; show x.ep + 1 ≤ K + 1; omega, by rw [hos]; exact hx.pr, fun h0 => ?_⟩
  dsimp only at h0 ⊢
  by_cases hs : x.sh = 0
  · have : nextN H x.sh nm = 0 := by rw [hs]; unfold nextN; rw [getS_out (.inl (by omega))]
    exact absurd this h0
  · obtain ⟨ns, e1, e2⟩ := hx.sh hs
    have hN : nextN H x.sh nm = addN H.M H.L x.sh (numT H.N nm : Int) := by unfold nextN; rw [e1]
    have hH : nextH H x.sh nm = { H with N := ofT H.N nm, L := addL H.M H.L x.sh (numT H.N nm : Int) } := by unfold nextH; rw [e1]
    rw [hN] at h0 ⊢
    obtain ⟨f1, _⟩ := add_spec h.wfs e1 h0
    obtain ⟨j, e, hj⟩ := getS_some e1
    refine ⟨ns ++ [(numT H.N nm : Int)], by rw [hH]; exact f1, ?_⟩
    rw [List.map_append, List.map_append, e2, hH]
    dsimp only
    congr 1
    · refine List.map_congr_left (fun y hy => ?_)
      have hb := h.nums j _ hj y hy
      obtain ⟨k, rfl⟩ : ∃ k : Nat, y = ((k + 1 : Nat) : Int) := ⟨(y - 1).toNat, by omega⟩
      have hk : k < H.N.length := by omega
      have h3 := List.getElem?_eq_getElem hk
      rw [textN_at h3, textN_at (ofT_get h3)]
    · have ha := ofT_at H.N nm
      have hb := atT_at ha.1
      have : ((numT H.N nm : Nat) : Int) = ((numT H.N nm - 1 + 1 : Nat) : Int) := by omega
      simp only [List.map_cons, List.map_nil]
      rw [this, textN_at hb]
theorem del_wf {K : Nat} {H : He} {i : Nat} {x : Ob} (h : WfH K H) (hi : H.os[i]? = some x) (nm : ByteArray) : WfH (K + 1) (putI H i { x with l := dropL x.l nm, ep := x.ep + 1, sh := 0 }) := by
  have W := h.more (Nat.le_succ K)
  have hx := h.obs i x hi
  refine put_wf W ⟨ok_drop hx.ok, ?_, by have := hx.ep; show x.ep + 1 ≤ K + 1; omega, hx.pr, fun h0 => absurd rfl h0⟩ (put_ends W hi rfl)
  exact Nat.le_trans (List.length_filter_le _ _) hx.few
theorem move_wf {K : Nat} {H : He} {i p : Nat} {x : Ob} (h : WfH K H) (hi : H.os[i]? = some x) (h0 : x.sh ≠ 0) (hp : p ≤ H.os.length) (hon : onH H ((i + 1 : Nat) : Int) (p : Int) = false) :
    WfH (K + 1) (putI { H with L := (moveP H.M H.L x.sh p).2 } i { x with pr := p, ep := x.ep + 1, sh := (moveP H.M H.L x.sh p).1 }) := by
  have hx := h.obs i x hi
  have hpp : I64 (p : Int) := by have := h.len; have := h.most; unfold I64; omega
  obtain ⟨ns, e1, e2⟩ := hx.sh h0
  obtain ⟨j, e, hj⟩ := getS_some e1
  have hm := move_spec (i := j) (p := (p : Int)) h.wfs hj hpp
  rw [← e] at hm
  have W := (h.more (Nat.le_succ K)).ext (L' := (moveP H.M H.L x.sh p).2) (N' := H.N) (Nat.le_refl _) hm.1 h.nd (Nat.le_succ_of_le h.nl) h.nsz (move_nums h.nums) (fun _ _ e => moveP_stay e) (fun _ _ e => e)
  refine put_wf W ⟨hx.ok, hx.few, by have := hx.ep; show x.ep + 1 ≤ K + 1; omega, hp, fun h0' => ?_⟩ ?_
  · rcases hm.2 with ⟨k, f1, f2⟩ | ⟨f1, _⟩
    · refine ⟨ns, ?_, e2⟩
      show getS (moveP H.M H.L x.sh p).2 ((moveP H.M H.L x.sh p).1 : Int) = some ((p : Int), ns)
      rw [f1, getS_succ, f2]
    · exact absurd f1 h0'
  · intro o
    obtain ⟨k, hk⟩ := proto_ends (x' := { x with pr := p, ep := x.ep + 1, sh := (moveP H.M H.L x.sh p).1 }) h hi rfl hon o
    have e := upN_congr (H' := putI { H with L := (moveP H.M H.L x.sh p).2 } i { x with pr := p, ep := x.ep + 1, sh := (moveP H.M H.L x.sh p).1 }) (H := putI H i { x with pr := p, ep := x.ep + 1, sh := (moveP H.M H.L x.sh p).1 }) (fun _ => rfl) k o
    exact ⟨k, by rw [e]; exact hk⟩
theorem under_wf {K : Nat} {H : He} {i p : Nat} {x : Ob} (h : WfH K H) (hi : H.os[i]? = some x) (h0 : x.sh = 0) (hp : p ≤ H.os.length) (hon : onH H ((i + 1 : Nat) : Int) (p : Int) = false) :
    WfH (K + 1) (putI H i { x with pr := p, ep := x.ep + 1 }) := by
  have W := h.more (Nat.le_succ K)
  have hx := h.obs i x hi
  exact put_wf W ⟨hx.ok, hx.few, by have := hx.ep; show x.ep + 1 ≤ K + 1; omega, hp, fun h1 => absurd h0 h1⟩ (fun o => proto_ends W hi rfl (by exact hon) o)
theorem setAt_names (l : List Ent) (k : Nat) (u : Vl) : (setAt l k u).map (·.1) = l.map (·.1) ∧ (setAt l k u).length = l.length := by
  unfold setAt
  cases h : l[k]? with
  | none => exact ⟨rfl, rfl⟩
  | some e =>
    refine ⟨?_, by simp⟩
    rw [List.map_set]
    apply List.ext_getElem?
    intro j
    by_cases e' : j = k
    · subst e'
      rw [List.getElem?_set_self (by simpa using lt_of_get h), List.getElem?_map, h]
      rfl
    · rw [List.getElem?_set_ne (fun h => e' h.symm)]
theorem ok_names {l l' : List Ent} (h : OkL l) (e : l'.map (·.1) = l.map (·.1)) : OkL l' := by
  refine ⟨by unfold OnceL; rw [e]; exact h.1, fun y hy => ?_⟩
  have : y.1 ∈ l.map (·.1) := by rw [← e]; exact List.mem_map.2 ⟨y, hy, rfl⟩
  obtain ⟨z, hz, e2⟩ := List.mem_map.1 this
  rw [← e2]
  exact h.2 z hz
theorem putv_wf {K : Nat} {H : He} {i k : Nat} {x : Ob} (h : WfH K H) (hi : H.os[i]? = some x) (u : Vl) : WfH K (putI H i { x with l := setAt x.l k u }) := by
  have hx := h.obs i x hi
  obtain ⟨e1, e2⟩ := setAt_names x.l k u
  refine put_wf h ⟨ok_names hx.ok e1, by show (setAt x.l k u).length ≤ 32; rw [e2]; exact hx.few, hx.ep, hx.pr, fun h0 => ?_⟩ (put_ends h hi rfl)
  obtain ⟨ns, f1, f2⟩ := hx.sh h0
  exact ⟨ns, f1, by show (setAt x.l k u).map (·.1) = _; rw [e1]; exact f2⟩
/-- a child of an object's shape -/
theorem child_of {K : Nat} {H : He} {i : Nat} {x : Ob} (h : WfH K H) (hi : H.os[i]? = some x) (h0 : x.sh ≠ 0) {to : Int} (hp : parF H.L to = x.sh) :
    ∃ ns y, getS H.L to = some ((x.pr : Int), ns ++ [y]) ∧ getS H.L x.sh = some ((x.pr : Int), ns) ∧ x.l.map (·.1) = ns.map (textN H.N) ∧ lastN H to = textN H.N y ∧ hasL x.l (lastN H to) = false ∧ (lastN H to).size ≤ 1000000 ∧ 1 ≤ to := by
  obtain ⟨ns, e1, e2⟩ := (h.obs i x hi).sh h0
  unfold parF at hp
  cases hg : getS H.L to with
  | none => rw [hg] at hp; exact absurd hp.symm h0
  | some s =>
    rw [hg] at hp
    dsimp only at hp
    obtain ⟨j, rfl, hj⟩ := getS_some hg
    obtain ⟨p, ms⟩ := s
    rcases List.eq_nil_or_concat ms with rfl | ⟨ms', y, rfl⟩
    · rw [parS_root] at hp
      exact absurd hp.symm h0
    · rw [List.concat_eq_append] at hj hp hg ⊢
      obtain ⟨k, _, hk, he⟩ := h.wfs.par hj
      rw [he] at hp
      have e3 : getS H.L x.sh = some (p, ms') := by rw [← hp, getS_succ]; exact hk
      rw [e3] at e1
      injection e1 with e1
      injection e1 with e1 e4
      subst e4 e1
      have hl : lastN H ((j + 1 : Nat) : Int) = textN H.N y := by unfold lastN namesF; rw [hg]; simp
      have hy := h.nums j _ hj y (by simp)
      have hd := h.wfs.names j _ hj
      simp only [List.nodup_append] at hd
      have hno : hasL x.l (textN H.N y) = false := by
        cases hh : hasL x.l (textN H.N y) with
        | false => rfl
        | true =>
          obtain ⟨e, he, h1⟩ := hasL_iff.1 hh
          have hm : e.1 ∈ ms'.map (textN H.N) := by rw [← e2]; exact List.mem_map.2 ⟨e, he, rfl⟩
          obtain ⟨z, hz, h2⟩ := List.mem_map.1 hm
          have hz' := h.nums k _ hk z hz
          have := textN_inj h.nd hz' hy (h2.trans h1)
          exact absurd this (hd.2.2 z hz y (by simp))
      refine ⟨ms', y, rfl, e3, e2, hl, by rw [hl]; exact hno, ?_, by omega⟩
      rw [hl]
      obtain ⟨k', rfl⟩ : ∃ k' : Nat, y = ((k' + 1 : Nat) : Int) := ⟨(y - 1).toNat, by omega⟩
      have hk' : k' < H.N.length := by omega
      rw [textN_at (List.getElem?_eq_getElem hk')]
      exact h.nsz _ (List.getElem_mem hk')
theorem grow_wf {K : Nat} {H : He} {i : Nat} {x : Ob} (h : WfH K H) (hi : H.os[i]? = some x) (h0 : x.sh ≠ 0) {to : Int} (hp : parF H.L to = x.sh) (hl : x.l.length < H.props) (u : Vl) :
    WfH (K + 1) (putI H i { x with l := x.l ++ [(lastN H to, u)], ep := x.ep + 1, sh := to.toNat }) := by
  have W := h.more (Nat.le_succ K)
  have hx := h.obs i x hi
  obtain ⟨ns, y, e1, e2, e3, e4, e5, e6, e7⟩ := child_of h hi h0 hp
  refine put_wf W ⟨ok_more u e6 hx.ok e5, by have := h.props; simp; omega, by have := hx.ep; show x.ep + 1 ≤ K + 1; omega, hx.pr, fun _ => ⟨ns ++ [y], ?_, ?_⟩⟩ (put_ends W hi rfl)
  · show getS H.L ((to.toNat : Nat) : Int) = _
    rw [show ((to.toNat : Nat) : Int) = to by omega]
    exact e1
  · show (x.l ++ [(lastN H to, u)]).map (·.1) = _
    rw [List.map_append, e3, List.map_append, e4]
    rfl

end Go.Proofs.YtemidicgipebjaaGreat
