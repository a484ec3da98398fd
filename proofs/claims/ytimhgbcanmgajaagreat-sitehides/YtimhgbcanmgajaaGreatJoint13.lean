/- The heap in memory: shapes' names, objects of slots, dictionaries. Objects of slots: what they tell. Objects that are dictionaries. -/
import Derived.Test.YtimhgbcanmgajaaGreatJoint2
import Derived.Test.YtimhgbcanmgajaaGreatHpPlain
import Derived.Test.YtimhgbcanmgajaaGreatJoint6
import Derived.Test.YtimhgbcanmgajaaGreatJoint12
namespace Go.Proofs.YtimhgbcanmgajaaGreat
set_option linter.unusedSimpArgs false
set_option maxRecDepth 100000
open Go.RowKit

theorem hcell_on {g i : Nat} {v : Value} {a c : World} (h : a.cell? ⟨g, i, none⟩ = some v) (hg : g < a.heap.size) (k : Below a.heap.size a c) : c.cell? ⟨g, i, none⟩ = some v := (k.cell (p := ⟨g, i, none⟩) hg).trans h
theorem hcell_keep {S : Nat → Prop} {g i : Nat} {v : Value} {a c : World} (h : a.cell? ⟨g, i, none⟩ = some v) (hg : g < a.heap.size) (k : Keep S a c) (hp : ¬ S g) : c.cell? ⟨g, i, none⟩ = some v := by
  have e := k.block g hg hp
  unfold World.cell? at h ⊢
  simp only [e]
  exact h

/-- names and shapes of a heap: names in blocks of colour 2, shapes in blocks of colour 3 -/
structure Cls (H : He) (c n f : Nat) (col : Nat → Nat) (w : World) : Prop where
  blk : Blk c 175 #[.pointer (some ⟨n, 0, none⟩), .pointer (some ⟨f, 0, none⟩)] w
  nm : NmS (fun b => col b = 2) n H.N w
  fo : FoS (fun b => col b = 3) f H.M H.L w
theorem Cls.on {H : He} {c n f : Nat} {col : Nat → Nat} {a b : World} (h : Cls H c n f col a) (k : Below a.heap.size a b) : Cls H c n f col b := ⟨blk_on h.blk k, h.nm.on k, h.fo.on k⟩
theorem Cls.keep {S : Nat → Prop} {H : He} {c n f : Nat} {col : Nat → Nat} {a b : World} (h : Cls H c n f col a) (k : Keep S a b) (hc : ¬ S c) (hS : ∀ x, x < a.heap.size → col x = 2 ∨ col x = 3 → ¬ S x) : Cls H c n f col b :=
  ⟨blk_keep h.blk k hc, h.nm.keep k (fun x hx e => hS x hx (.inl e)), h.fo.keep k (fun x hx e => hS x hx (.inr e))⟩
theorem Cls.mono {H : He} {c n f : Nat} {col col' : Nat → Nat} {w : World} (h : Cls H c n f col w) (he : ∀ b, b < w.heap.size → col' b = col b) : Cls H c n f col' w :=
  ⟨h.blk, h.nm.mono (fun b hb e => (he b hb).trans e), h.fo.mono (fun b hb e => (he b hb).trans e)⟩
theorem Cls.cells {H : He} {c n f : Nat} {col : Nat → Nat} {w : World} (h : Cls H c n f col w) : w.cell? ⟨c, 0, none⟩ = some (.pointer (some ⟨n, 0, none⟩)) ∧ w.cell? ⟨c, 1, none⟩ = some (.pointer (some ⟨f, 0, none⟩)) ∧ c < w.heap.size :=
  ⟨by rw [blk_cell h.blk]; rfl, by rw [blk_cell h.blk]; rfl, blk_lt h.blk⟩
theorem cslot_calls {H : He} {c n f : Nat} {col : Nat → Nat} (w : World) (h : Cls H c n f col w) (id : Int) (s : ByteArray) (hs : s.size ≤ 1000000) :
    Calls Tryz.prog 146 #[.pointer (some ⟨c, 0, none⟩), .int .i64 id, .string s] w fun e w' => e = .returned (.int .i64 (slotN H.N H.L id s)) ∧ Below w.heap.size w w' := by
  have HF := hid (tfind_calls w h.nm s (by unfold maxLen; omega))
  obtain ⟨c0, c1, hc⟩ := h.cells
  cases ha : atT H.N s with
  | none =>
    rw [show slotN H.N H.L id s = -1 by unfold slotN; rw [ha]]
    rw [ha, show findT H.N s = 0 by unfold findT; rw [ha]] at HF
    clear h
    go_enter Tryz.func146, Tryz.ntmps146
    go_wp2_with fail
    refine HF.out.mono ?_
    rintro e1 w1 ⟨rfl, rfl⟩
    go_wp2_with fail
    go_ret
    exact ⟨rfl, Below.refl _ _⟩
  | some i =>
    rw [show slotN H.N H.L id s = slotF H.L id ((i + 1 : Nat) : Int) by unfold slotN; rw [ha]]
    rw [ha, show findT H.N s = i + 1 by unfold findT; rw [ha]] at HF
    have HS := hid (fslot_calls w h.fo id ((i + 1 : Nat) : Int))
    clear h ha
    generalize ((i + 1 : Nat) : Int) = j at *
    go_enter Tryz.func146, Tryz.ntmps146
    go_wp2_with fail
    refine HF.out.mono ?_
    rintro e1 w1 ⟨rfl, rfl⟩
    go_wp2_with fail
    refine HS.out.mono ?_
    rintro e2 w2 ⟨rfl, b2⟩
    have B2 := hid b2
    clear b2
    go_wp2_with fail
    go_ret
    exact ⟨rfl, B2.out⟩

/-- an object of slots at q -/
structure SlAt (c : Nat) (sh : Int) (l : List Ent) (q : Nat) (v : Value) (w : World) : Prop where
  blk : Blk q 164 #[.pointer (some ⟨c, 0, none⟩), .int .i64 sh, v] w
  row : w.ownsRow 0 37 3 v l.length (valsC l)
def FtL (q : Nat) (v : Value) (b : Nat) : Prop := b = q ∨ v.ownBlock = some b
theorem SlAt.keep {c q : Nat} {sh : Int} {l : List Ent} {v : Value} {a b : World} (h : SlAt c sh l q v a) (hk : ∀ x, FtL q v x → b.heap[x]? = a.heap[x]?) : SlAt c sh l q v b :=
  ⟨(hk q (.inl rfl)).trans h.blk, row_keep h.row (fun g hg => hk g (.inr hg))⟩
theorem SlAt.lt {c q b : Nat} {sh : Int} {l : List Ent} {v : Value} {w : World} (h : SlAt c sh l q v w) (hb : FtL q v b) : b < w.heap.size := by
  rcases hb with rfl | hb
  · exact blk_lt h.blk
  · obtain ⟨cur, hc⟩ := row_lt h.row hb
    exact blk_lt hc
theorem SlAt.on {c q : Nat} {sh : Int} {l : List Ent} {v : Value} {a b : World} (h : SlAt c sh l q v a) (k : Below a.heap.size a b) : SlAt c sh l q v b := h.keep fun x hx => k.block x (h.lt hx)
theorem SlAt.ne {c q : Nat} {sh : Int} {l : List Ent} {v : Value} {w : World} (h : SlAt c sh l q v w) {g : Nat} (hg : v.ownBlock = some g) : g ≠ q := fun e => by
  obtain ⟨cur, hc⟩ := row_lt h.row hg
  exact absurd (blk_type hc (e ▸ h.blk)) (by decide)
theorem SlAt.cells {c q : Nat} {sh : Int} {l : List Ent} {v : Value} {w : World} (h : SlAt c sh l q v w) : w.cell? ⟨q, 0, none⟩ = some (.pointer (some ⟨c, 0, none⟩)) ∧ w.cell? ⟨q, 1, none⟩ = some (.int .i64 sh) ∧ w.cell? ⟨q, 2, none⟩ = some v ∧ q < w.heap.size :=
  ⟨by rw [blk_cell h.blk]; rfl, by rw [blk_cell h.blk]; rfl, by rw [blk_cell h.blk]; rfl, blk_lt h.blk⟩
theorem SlAt.value {c q i : Nat} {sh : Int} {l : List Ent} {v : Value} {e : Ent} {w : World} (h : SlAt c sh l q v w) (hi : l[i]? = some e) :
    ∃ g cap, v = .slice (some ⟨g, 0, none⟩) l.length cap ∧ g < w.heap.size ∧ w.cell? ⟨g, i * 3, none⟩ = some (.int .i64 e.2.1) ∧ w.cell? ⟨g, i * 3 + 1, none⟩ = some (.int .i64 e.2.2.1) ∧ w.cell? ⟨g, i * 3 + 2, none⟩ = some (.string e.2.2.2) ∧ ∀ j, w.frozen? ⟨g, j, none⟩ = false := by
  have hl : i < l.length := lt_of_get hi
  obtain ⟨g, cap, rfl, _, hg⟩ := h.row.form (by omega)
  exact ⟨g, cap, rfl, hg, row_cell h.row (valsC_at (j := 0) hi (by omega)), row_cell h.row (valsC_at (j := 1) hi (by omega)), row_cell h.row (valsC_at (j := 2) hi (by omega)), fun j => row_free h.row j⟩

def vlO (o : Option Vl) : Vl := o.getD vl0
theorem slotL_some {l : List Ent} {i : Int} {v : Vl} (h : slotL l i = some v) : ∃ (k : Nat) (s : ByteArray), i = (k : Int) ∧ l[k]? = some (s, v) := by
  unfold slotL at h
  split at h
  · cases hg : l[i.toNat]? with
    | none => rw [hg] at h; cases h
    | some e =>
      rw [hg] at h
      obtain ⟨s, u⟩ := e
      have : u = v := by simpa using h
      subst this
      exact ⟨i.toNat, s, by omega, hg⟩
  · cases h
theorem slotL_none {l : List Ent} {i : Int} (h : slotL l i = none) : i < 0 ∨ (l.length : Int) ≤ i := by
  unfold slotL at h
  split at h
  · cases hg : l[i.toNat]? with
    | none => have := List.getElem?_eq_none_iff.1 hg; omega
    | some e => rw [hg] at h; cases h
  · omega
theorem slotL_at {l : List Ent} {k : Nat} {s : ByteArray} {v : Vl} (h : l[k]? = some (s, v)) : slotL l (k : Int) = some v := by
  unfold slotL
  rw [if_pos (by omega)]
  simp [h]

set_option maxHeartbeats 1000000 in
theorem svalue_calls {c q : Nat} {sh : Int} {l : List Ent} {v : Value} (w : World) (h : SlAt c sh l q v w) (i : Int) :
    Calls Tryz.prog 123 #[.pointer (some ⟨q, 0, none⟩), .int .i64 i] w fun e w' => e = .returned (.tuple #[vlV (vlO (slotL l i)), .bool (slotL l i).isSome]) ∧ Below w.heap.size w w' := by
  obtain ⟨c0, c1, c2, hq⟩ := h.cells
  cases hs : slotL l i with
  | none =>
    obtain ⟨ao, cap, rfl⟩ := row_shape h.row
    have hn := slotL_none hs
    clear h hs
    by_cases h0 : i < 0
    · go_enter Tryz.func123, Tryz.ntmps123
      go_wp2_with fail
      exact bodyPost_ret (ret_ve rfl rfl ⟨by simp [vl0, vlO], by simp [vl0, vlO], by simp [vl0, vlO]⟩) rfl ⟨rfl, (Below.refl _ _).alloc (Nat.le_refl _) _⟩
    · have h1 : (l.length : Int) ≤ i := by omega
      clear hn
      go_enter Tryz.func123, Tryz.ntmps123
      go_wp2_with fail
      exact bodyPost_ret (ret_ve rfl rfl ⟨by simp [vl0, vlO], by simp [vl0, vlO], by simp [vl0, vlO]⟩) rfl ⟨rfl, (Below.refl _ _).alloc (Nat.le_refl _) _⟩
  | some u =>
    obtain ⟨k, s, rfl, hk⟩ := slotL_some hs
    obtain ⟨g, cap, rfl, hg, v0, v1, v2, _⟩ := h.value hk
    have hl : k < l.length := lt_of_get hk
    clear h hs hk
    go_enter Tryz.func123, Tryz.ntmps123
    go_wp2_with fail
    exact bodyPost_ret (ret_ve rfl rfl ⟨by simp [vlO], by simp [vlO], by simp [vlO]⟩) rfl ⟨rfl, (Below.refl _ _).alloc (Nat.le_refl _) _⟩
theorem scount_calls {c q : Nat} {sh : Int} {l : List Ent} {v : Value} (w : World) (h : SlAt c sh l q v w) :
    Calls Tryz.prog 144 #[.pointer (some ⟨q, 0, none⟩)] w fun e w' => e = .returned (.int .i64 (l.length : Int)) ∧ w' = w := by
  obtain ⟨c0, c1, c2, hq⟩ := h.cells
  obtain ⟨ao, cap, rfl⟩ := row_shape h.row
  clear h
  go_enter Tryz.func144, Tryz.ntmps144
  go_wp2_with fail
  go_ret
  exact ⟨rfl, rfl⟩
set_option maxHeartbeats 1000000 in
theorem sproto_calls {H : He} {c n f q : Nat} {col : Nat → Nat} {sh : Int} {l : List Ent} {v : Value} (w : World) (C : Cls H c n f col w) (h : SlAt c sh l q v w) :
    Calls Tryz.prog 150 #[.pointer (some ⟨q, 0, none⟩)] w fun e w' => e = .returned (.int .i64 (protoF H.L sh)) ∧ Below w.heap.size w w' := by
  obtain ⟨c0, c1, c2, hq⟩ := h.cells
  obtain ⟨d0, d1, hc⟩ := C.cells
  have HP := hid (fproto_calls w.drew (C.fo.on (Below.refl _ _).drew) sh)
  clear h C
  go_enter Tryz.func150, Tryz.ntmps150
  go_wp2_with fail
  refine wp_region_held_drew (S := fun a => a.cell? ⟨q, 0, none⟩ = some (.pointer (some ⟨c, 0, none⟩)) ∧ a.cell? ⟨q, 1, none⟩ = some (.int .i64 sh) ∧ a.cell? ⟨c, 1, none⟩ = some (.pointer (some ⟨f, 0, none⟩))) (by kernel_rfl) ?_ (fun hHeld => ?_)
  · (refine ⟨?_, ?_, ?_⟩ <;> go_simp)
  refine tkk 0 ?_
  refine tkk 1 ?_
  refine tkk 2 ?_
  refine tkk 3 ?_
  refine tkk 4 ?_
  refine tkk 5 ?_
  refine tkk 6 ?_
  refine tkk 7 ?_
  refine tkk 8 ?_
  refine tkk 9 ?_
  refine tkk 10 ?_
  refine rdy 11 (fun K hK => ?_)
  go_simp
  refine HP.out.mono ?_
  rintro e1 w1 ⟨rfl, rfl⟩
  go_simp
  refine hK.out _ _ ?_ (fun _ => ?_)
  · (refine ⟨?_, ?_, ?_⟩ <;> (first | assumption | go_simp))
  clear hK K
  refine tkk 12 ?_
  refine tkk 13 ?_
  refine tkk 14 ?_
  refine tkk 15 ?_
  refine tkk 16 ?_
  refine wpAnyH_done (by kernel_rfl) ?_ _
  go_wp2_with fail
  go_ret
  exact ⟨rfl, (Below.refl _ _).drew⟩

end Go.Proofs.YtimhgbcanmgajaaGreat

namespace Go.Proofs.YtimhgbcanmgajaaGreat
set_option linter.unusedSimpArgs false
set_option maxRecDepth 100000
open Go.RowKit

set_option maxHeartbeats 1000000 in
theorem sown_calls {H : He} {c n f q : Nat} {col : Nat → Nat} {sh : Int} {l : List Ent} {v : Value} (w : World) (C : Cls H c n f col w) (h : SlAt c sh l q v w) (s : ByteArray) (hs : s.size ≤ 1000000) :
    Calls Tryz.prog 199 #[.pointer (some ⟨q, 0, none⟩), .string s] w fun e w' => e = .returned (.tuple #[vlV (vlO (slotL l (slotN H.N H.L sh s))), .bool (slotL l (slotN H.N H.L sh s)).isSome]) ∧ Below w.heap.size w w' := by
  obtain ⟨c0, c1, c2, hq⟩ := h.cells
  have hqn : q ≠ w.heap.size := by omega
  have A := (Below.refl w.heap.size w).alloc (Nat.le_refl _) (Obj.cells #[.int .i64 0, .int .i64 0, .string ⟨#[]⟩] 37)
  have HA := hid A.drew
  have HH := hid (h.on A.drew)
  have hS := hid (slot_on (slot_new w rfl 37) (Below.refl _ _).drew)
  have HSl := hid (cslot_calls _ (C.on A.drew) sh s hs)
  clear h C A
  generalize slotN H.N H.L sh s = i at *
  unfold vlV
  go_enter Tryz.func199, Tryz.ntmps199
  go_wp2_with fail
  refine wp_region_held_drew (S := fun a => a.cell? ⟨q, 0, none⟩ = some (.pointer (some ⟨c, 0, none⟩)) ∧ a.cell? ⟨q, 1, none⟩ = some (.int .i64 sh)) (by kernel_rfl) ?_ (fun hHeld => ?_)
  · (refine ⟨?_, ?_⟩ <;> go_simp)
  refine tkk 0 ?_
  refine tkk 1 ?_
  refine tkk 2 ?_
  refine tkk 3 ?_
  refine tkk 4 ?_
  refine tkk 5 ?_
  refine tkk 6 ?_
  refine tkk 7 ?_
  refine tkk 8 ?_
  refine tkk 9 ?_
  refine rdy 10 (fun K hK => ?_)
  go_simp
  refine HSl.out.mono ?_
  rintro e1 w1 ⟨rfl, b1⟩
  have HV := hid (svalue_calls w1 (HH.out.on b1) i)
  have S1 := hid (slot_on hS.out b1)
  have B1 := hid (below_on HA.out b1)
  obtain ⟨d0, d1, _, dq⟩ := (HH.out.on b1).cells
  unfold vlV at HV
  clear b1 HSl HH HA hS
  go_simp
  refine hK.out _ _ ?_ (fun _ => ?_)
  · (refine ⟨?_, ?_⟩ <;> (first | assumption | go_simp))
  clear hK K
  refine rdy 11 (fun K hK => ?_)
  go_simp
  refine HV.out.mono ?_
  rintro e2 w2 ⟨rfl, b2⟩
  have S2 := hid (slot_on S1.out b2)
  have B2 := hid (below_on B1.out b2)
  have d0 := hcell_on d0 dq b2
  have d1 := hcell_on d1 dq b2
  have dq2 := Nat.lt_of_lt_of_le dq b2.size
  clear b2 HV S1 B1
  obtain ⟨g0, g1, g2, g3, g4, g5, g6⟩ := S2.out
  go_simp
  refine hK.out _ _ ?_ (fun _ => ?_)
  · (refine ⟨?_, ?_⟩ <;> (first | assumption | go_simp))
  clear hK K
  refine tkk 12 ?_
  refine tkk 13 ?_
  refine rdy 14 (fun K hK => ?_)
  go_simp
  refine hK.out _ _ ?_ (fun _ => ?_)
  · (refine ⟨?_, ?_⟩ <;> (first | assumption | go_simp))
  clear hK K
  refine tkk 15 ?_
  refine wpAnyH_done (by kernel_rfl) ?_ _
  go_wp2_with fail
  exact bodyPost_ret (ret_ve rfl rfl (put3_cells S2.out _ _ _)) rfl ⟨rfl, put3 B2.out (by simp) _ _ _⟩

def strO (o : Option ByteArray) : ByteArray := o.getD ⟨#[]⟩
theorem keyL_some {l : List Ent} {i : Int} {s : ByteArray} (h : keyP l i = some s) : ∃ (k : Nat) (v : Vl), i = (k : Int) ∧ l[k]? = some (s, v) := by
  unfold keyP at h
  split at h
  · cases hg : l[i.toNat]? with
    | none => rw [hg] at h; cases h
    | some e =>
      rw [hg] at h
      obtain ⟨t, u⟩ := e
      have : t = s := by simpa using h
      subst this
      exact ⟨i.toNat, u, by omega, hg⟩
  · cases h
theorem keyL_none {l : List Ent} {i : Int} (h : keyP l i = none) : i < 0 ∨ (l.length : Int) ≤ i := by
  unfold keyP at h
  split at h
  · cases hg : l[i.toNat]? with
    | none => have := List.getElem?_eq_none_iff.1 hg; omega
    | some e => rw [hg] at h; cases h
  · omega
theorem keyL_at {l : List Ent} {k : Nat} {s : ByteArray} {v : Vl} (h : l[k]? = some (s, v)) : keyP l (k : Int) = some s := by
  unfold keyP
  rw [if_pos (by omega)]
  simp [h]
/-- the names of an object of a shape -/
structure Named (H : He) (sh : Int) (l : List Ent) : Prop where
  nm : l.map (·.1) = (namesF H.L sh).map (textN H.N)
  nums : ∀ x ∈ namesF H.L sh, 1 ≤ x ∧ x ≤ H.N.length
  len : H.N.length ≤ 1000000
theorem Named.at' {H : He} {sh : Int} {l : List Ent} {k : Nat} {e : Ent} (h : Named H sh l) (hk : l[k]? = some e) : ∃ j : Nat, (namesF H.L sh)[k]? = some ((j : Int) + 1) ∧ H.N[j]? = some e.1 := by
  have h1 : (l.map (·.1))[k]? = some e.1 := by rw [List.getElem?_map, hk]; rfl
  rw [h.nm, List.getElem?_map] at h1
  cases hx : (namesF H.L sh)[k]? with
  | none => rw [hx] at h1; cases h1
  | some x =>
    rw [hx] at h1
    have hb := h.nums x (List.mem_of_getElem? hx)
    obtain ⟨j, rfl⟩ : ∃ j : Nat, x = (j : Int) + 1 := ⟨(x - 1).toNat, by omega⟩
    refine ⟨j, rfl, ?_⟩
    have hj : j < H.N.length := by omega
    have h2 := List.getElem?_eq_getElem hj
    have h3 : textN H.N ((j : Int) + 1) = e.1 := by simpa using h1
    rw [show ((j : Int) + 1) = ((j + 1 : Nat) : Int) by omega, textN_at h2] at h3
    rw [h2, h3]

set_option maxHeartbeats 1000000 in
theorem skey_calls {H : He} {c n f q : Nat} {col : Nat → Nat} {sh : Int} {l : List Ent} {v : Value} (w : World) (C : Cls H c n f col w) (h : SlAt c sh l q v w) (hN : Named H sh l) (i : Int) :
    Calls Tryz.prog 151 #[.pointer (some ⟨q, 0, none⟩), .int .i64 i] w fun e w' => e = .returned (.tuple #[.string (strO (keyP l i)), .bool (keyP l i).isSome]) ∧ Below w.heap.size w w' := by
  obtain ⟨c0, c1, c2, hq⟩ := h.cells
  obtain ⟨d0, d1, hc⟩ := C.cells
  obtain ⟨ao, cap, rfl⟩ := row_shape h.row
  cases hs : keyP l i with
  | none =>
    have hn := keyL_none hs
    clear h hs C hN
    by_cases h0 : i < 0
    · go_enter Tryz.func151, Tryz.ntmps151
      go_wp2_with fail
      go_ret2
      exact ⟨rfl, Below.refl _ _⟩
    · have h1 : (l.length : Int) ≤ i := by omega
      clear hn
      go_enter Tryz.func151, Tryz.ntmps151
      go_wp2_with fail
      go_ret2
      exact ⟨rfl, Below.refl _ _⟩
  | some s =>
    obtain ⟨k, u, rfl, hk⟩ := keyL_some hs
    have hl : k < l.length := lt_of_get hk
    obtain ⟨j, hj, hjs⟩ := hN.at' hk
    have hkn := lt_of_get hj
    have HNl := hid hN.len
    have HJ := hid hj
    have HJS := hid hjs
    have D := (Below.refl w.heap.size w).drew
    have HN := hid (fnames_calls w.drew (C.fo.on D) sh)
    have HC := hid (C.on D)
    have HD := hid D
    clear h hs C hN hk D hj hjs
    go_enter Tryz.func151, Tryz.ntmps151
    go_wp2_with fail
    refine wp_region_held_drew (S := fun a => a.cell? ⟨q, 0, none⟩ = some (.pointer (some ⟨c, 0, none⟩)) ∧ a.cell? ⟨q, 1, none⟩ = some (.int .i64 sh) ∧ a.cell? ⟨c, 0, none⟩ = some (.pointer (some ⟨n, 0, none⟩)) ∧ a.cell? ⟨c, 1, none⟩ = some (.pointer (some ⟨f, 0, none⟩))) (by kernel_rfl) ?_ (fun hHeld => ?_)
    · (refine ⟨?_, ?_, ?_, ?_⟩ <;> go_simp)
    refine tkk 0 ?_
    refine tkk 1 ?_
    refine tkk 2 ?_
    refine tkk 3 ?_
    refine tkk 4 ?_
    refine tkk 5 ?_
    refine tkk 6 ?_
    refine tkk 7 ?_
    refine tkk 8 ?_
    refine tkk 9 ?_
    refine tkk 10 ?_
    refine tkk 11 ?_
    refine tkk 12 ?_
    refine tkk 13 ?_
    refine tkk 14 ?_
    refine tkk 15 ?_
    refine tkk 16 ?_
    refine tkk 17 ?_
    refine tkk 19 ?_
    refine rdy 18 (fun K hK => ?_)
    go_simp
    refine HN.out.mono ?_
    rintro e1 w1 ⟨v1, rfl, r1, b1⟩
    obtain ⟨g1, cp1, rfl, _, hg1⟩ := r1.form (by omega)
    have x1 := row_cell (row_base r1 (Nat.zero_le _)) (j := k) (u := .int .i64 ((j : Int) + 1)) (by rw [List.getElem?_map, HJ.out]; rfl)
    have c0 := hcell_on (c := w1) (a := w.drew) c0 hq b1
    have c1 := hcell_on (c := w1) (a := w.drew) c1 hq b1
    have d0 := hcell_on (c := w1) (a := w.drew) d0 hc b1
    have d1 := hcell_on (c := w1) (a := w.drew) d1 hc b1
    have HT := hid (ttext_some w1 ((HC.out.on b1).nm) HJS.out HNl.out)
    have B1 := hid (below_on HD.out b1)
    clear r1 b1 HN HC HD HJ HJS HNl
    go_simp
    refine hK.out _ _ ?_ (fun _ => ?_)
    · (refine ⟨?_, ?_, ?_, ?_⟩ <;> (first | assumption | go_simp))
    clear hK K
    refine tkk 20 ?_
    refine rdy 21 (fun K hK => ?_)
    go_simp
    refine hK.out _ _ ?_ (fun _ => ?_)
    · (refine ⟨?_, ?_, ?_, ?_⟩ <;> (first | assumption | go_simp))
    clear hK K
    refine rdy 22 (fun K hK => ?_)
    go_simp
    refine HT.out.mono ?_
    rintro e2 w2 ⟨rfl, rfl⟩
    go_simp
    refine hK.out _ _ ?_ (fun _ => ?_)
    · (refine ⟨?_, ?_, ?_, ?_⟩ <;> (first | assumption | go_simp))
    clear hK K
    refine tkk 23 ?_
    refine tkk 24 ?_
    refine tkk 25 ?_
    refine tkk 26 ?_
    refine wpAnyH_done (by kernel_rfl) ?_ _
    go_wp2_with fail
    go_ret2
    exact ⟨rfl, B1.out⟩

/-- a value put into a slot -/
def putL (l : List Ent) (i : Int) (x : Vl) : List Ent := if 0 ≤ i then setAt l i.toNat x else l
theorem putL_at {l : List Ent} {k : Nat} {s : ByteArray} {u : Vl} (x : Vl) (h : l[k]? = some (s, u)) : putL l (k : Int) x = l.set k (s, x) := by
  unfold putL setAt
  rw [if_pos (by omega), Int.toNat_natCast, h]
theorem putL_none {l : List Ent} {i : Int} (x : Vl) (h : slotL l i = none) : putL l i x = l := by
  unfold putL
  split
  · unfold setAt
    rcases slotL_none h with h1 | h1
    · omega
    · rw [List.getElem?_eq_none_iff.2 (by omega)]
  · rfl
theorem SlAt.put {c q i g cap : Nat} {sh : Int} {l : List Ent} {s : ByteArray} {u x : Vl} {w : World} (h : SlAt c sh l q (.slice (some ⟨g, 0, none⟩) l.length cap) w) (hu : l[i]? = some (s, u)) :
    SlAt c sh (l.set i (s, x)) q (.slice (some ⟨g, 0, none⟩) l.length cap) (((w.setCell ⟨g, i * 3, none⟩ (.int .i64 x.1)).setCell ⟨g, i * 3 + 1, none⟩ (.int .i64 x.2.1)).setCell ⟨g, i * 3 + 2, none⟩ (.string x.2.2)) ∧
      Keep (fun b => b = g) w (((w.setCell ⟨g, i * 3, none⟩ (.int .i64 x.1)).setCell ⟨g, i * 3 + 1, none⟩ (.int .i64 x.2.1)).setCell ⟨g, i * 3 + 2, none⟩ (.string x.2.2)) := by
  have hgq := h.ne (g := g) rfl
  have hil : i < l.length := lt_of_get hu
  have ks : ∀ (W : World) (j : Nat) (u : Value), Keep (fun b => b = g) W (W.setCell ⟨g, j, none⟩ u) := fun W j u => Keep.set (S := fun b => b = g) rfl W j u
  have K : Keep (fun b => b = g) w (((w.setCell ⟨g, i * 3, none⟩ (.int .i64 x.1)).setCell ⟨g, i * 3 + 1, none⟩ (.int .i64 x.2.1)).setCell ⟨g, i * 3 + 2, none⟩ (.string x.2.2)) := ((ks _ _ _).trans (ks _ _ _) (fun _ _ h => h)).trans (ks _ _ _) (fun _ _ h => h)
  refine ⟨⟨blk_keep h.blk K (fun e => hgq e.symm), ?_⟩, K⟩
  have rr := row_set (row_set (row_set h.row (i * 3) (.int .i64 x.1)) (i * 3 + 1) (.int .i64 x.2.1)) (i * 3 + 2) (.string x.2.2)
  rw [valsC_set (s := s) x hil] at rr
  rw [List.length_set]
  exact rr
set_option maxHeartbeats 1000000 in
theorem sput_calls {c q : Nat} {sh : Int} {l : List Ent} {v : Value} (w : World) (h : SlAt c sh l q v w) (i : Int) (x : Vl) :
    Calls Tryz.prog 145 #[.pointer (some ⟨q, 0, none⟩), .int .i64 i, vlV x] w fun e w' => e = .returned (.bool (slotL l i).isSome) ∧ SlAt c sh (putL l i x) q v w' ∧ Keep (FtL q v) w w' := by
  obtain ⟨c0, c1, c2, hq⟩ := h.cells
  have A := (Below.refl w.heap.size w).alloc (Nat.le_refl _) (Obj.cells #[.int .i64 x.1, .int .i64 x.2.1, .string x.2.2] 37)
  cases hs : slotL l i with
  | none =>
    rw [putL_none x hs]
    obtain ⟨ao, cap, rfl⟩ := row_shape h.row
    have hn := slotL_none hs
    have HH := hid (h.on A)
    have HA := hid A
    clear h hs A
    unfold vlV
    by_cases h0 : i < 0
    · go_enter Tryz.func145, Tryz.ntmps145
      go_wp2_with fail
      go_ret
      exact ⟨rfl, HH.out, Keep.of HA.out⟩
    · have h1 : (l.length : Int) ≤ i := by omega
      clear hn
      go_enter Tryz.func145, Tryz.ntmps145
      go_wp2_with fail
      go_ret
      exact ⟨rfl, HH.out, Keep.of HA.out⟩
  | some u =>
    obtain ⟨k, s, rfl, hk⟩ := slotL_some hs
    obtain ⟨g, cap, rfl, hgs, v0, v1, v2, fz⟩ := h.value hk
    have hl : k < l.length := lt_of_get hk
    rw [putL_at x hk]
    have HP := hid (h.put (x := x) hk)
    have hgq := h.ne (g := g) rfl
    have f0 := fz (k * 3)
    have f1 := fz (k * 3 + 1)
    have f2 := fz (k * 3 + 2)
    clear h hs hk fz A
    unfold vlV
    go_enter Tryz.func145, Tryz.ntmps145
    go_wp2_with fail
    refine wp_region_held_drew (S := fun a => a.cell? ⟨q, 2, none⟩ = some (.slice (some ⟨g, 0, none⟩) l.length cap) ∧ a.cell? ⟨w.heap.size, 0, none⟩ = some (.int .i64 x.1) ∧ a.cell? ⟨w.heap.size, 1, none⟩ = some (.int .i64 x.2.1) ∧ a.cell? ⟨w.heap.size, 2, none⟩ = some (.string x.2.2)) (by kernel_rfl) ?_ (fun hHeld => ?_)
    · (refine ⟨?_, ?_, ?_, ?_⟩ <;> go_simp)
    refine tkk 0 ?_
    refine tkk 1 ?_
    refine tkk 2 ?_
    refine tkk 3 ?_
    refine tkk 4 ?_
    refine tkk 5 ?_
    refine tkk 6 ?_
    refine rdy 7 (fun K hK => ?_)
    go_simp
    refine hK.out _ _ ?_ (fun _ => ?_)
    · (refine ⟨?_, ?_, ?_, ?_⟩ <;> (first | assumption | go_simp))
    clear hK K
    refine wpAnyH_done (by kernel_rfl) ?_ _
    go_wp2_with fail
    go_ret
    exact ⟨rfl, HP.out.1.on (((Below.refl _ _).alloc (Nat.le_refl _) _).drew), (HP.out.2.mono (T := FtL q (.slice (some ⟨g, 0, none⟩) l.length cap)) (fun b _ e => .inr (by rw [e]; rfl))).trans (Keep.of (S := FtL q (.slice (some ⟨g, 0, none⟩) l.length cap)) (((Below.refl _ _).alloc (Nat.le_refl _) _).drew)) (fun _ _ h => h)⟩

end Go.Proofs.YtimhgbcanmgajaaGreat

namespace Go.Proofs.YtimhgbcanmgajaaGreat
set_option linter.unusedSimpArgs false
set_option maxRecDepth 100000
open Go.RowKit

/-- a dictionary at q, in the blocks of S -/
def DiS (S : Nat → Prop) (pr : Int) (l : List Ent) (q n : Nat) (w : World) : Prop := ∃ d, Blk q 203 #[.int .i64 pr, .pointer (some ⟨d, 0, none⟩)] w ∧ DcS (fun b => S b ∧ b ≠ q) d n l w ∧ S q
theorem DiS.mono {S T : Nat → Prop} {pr : Int} {l : List Ent} {q n k : Nat} {w : World} (h : DiS S pr l q n w) (hS : ∀ b, b < w.heap.size → S b → T b) (hn : n ≤ k) : DiS T pr l q k w := by
  obtain ⟨d, h1, h2, h3⟩ := h
  exact ⟨d, h1, h2.mono (fun b hb h => ⟨hS b hb h.1, h.2⟩) hn, hS q (blk_lt h1) h3⟩
theorem DiS.keep {S T : Nat → Prop} {pr : Int} {l : List Ent} {q n : Nat} {a c : World} (h : DiS S pr l q n a) (k : Keep T a c) (hT : ∀ b, b < a.heap.size → S b → ¬ T b) : DiS S pr l q n c := by
  obtain ⟨d, h1, h2, h3⟩ := h
  exact ⟨d, blk_keep h1 k (hT q (blk_lt h1) h3), h2.keep k (fun b hb h => hT b hb h.1), h3⟩
theorem DiS.on {S : Nat → Prop} {pr : Int} {l : List Ent} {q n : Nat} {a c : World} (h : DiS S pr l q n a) (k : Below a.heap.size a c) : DiS S pr l q n c := h.keep (T := fun _ => False) (Keep.of k) (fun _ _ _ h => h)
theorem DiS.once {S : Nat → Prop} {pr : Int} {l : List Ent} {q n : Nat} {w : World} (h : DiS S pr l q n w) : OkL l ∧ l.length ≤ n := by
  obtain ⟨d, h1, h2, h3⟩ := h
  exact h2.once
/-- behind what was done to the dict -/
theorem DiS.of {S : Nat → Prop} {pr : Int} {l' : List Ent} {q d k : Nat} {w w' : World} (hb : Blk q 203 #[.int .i64 pr, .pointer (some ⟨d, 0, none⟩)] w) (hq : S q)
    (hD : DcS (Up (fun b => S b ∧ b ≠ q) w) d k l' w') (hk : Keep (fun b => S b ∧ b ≠ q) w w') : DiS (Up S w) pr l' q k w' ∧ Keep S w w' := by
  have hql := blk_lt hb
  refine ⟨⟨d, blk_keep hb hk (fun h => h.2 rfl), hD.mono (fun b _ h => ?_) (Nat.le_refl _), .inl hq⟩, hk.mono (fun b _ h => h.1)⟩
  rcases h with h | h
  · exact ⟨.inl h.1, h.2⟩
  · exact ⟨.inr h, by omega⟩
theorem dproto_calls {S : Nat → Prop} {pr : Int} {l : List Ent} {q n : Nat} (w : World) (h : DiS S pr l q n w) :
    Calls Tryz.prog 204 #[.pointer (some ⟨q, 0, none⟩)] w fun e w' => e = .returned (.int .i64 pr) ∧ Below w.heap.size w w' := by
  obtain ⟨d, h1, h2, h3⟩ := h
  have c0 : w.cell? ⟨q, 0, none⟩ = some (.int .i64 pr) := by rw [blk_cell h1]; rfl
  clear h1 h2 h3
  go_enter Tryz.func204, Tryz.ntmps204
  go_wp2_with fail
  go_ret
  exact ⟨rfl, Below.refl _ _⟩
theorem dcount_calls {S : Nat → Prop} {pr : Int} {l : List Ent} {q n : Nat} (w : World) (h : DiS S pr l q n w) :
    Calls Tryz.prog 201 #[.pointer (some ⟨q, 0, none⟩)] w fun e w' => e = .returned (.int .i64 (l.length : Int)) ∧ w' = w := by
  obtain ⟨d, h1, h2, h3⟩ := h
  have c1 : w.cell? ⟨q, 1, none⟩ = some (.pointer (some ⟨d, 0, none⟩)) := by rw [blk_cell h1]; rfl
  have HL := hid (dclen_calls w h2)
  clear h1 h2 h3
  go_enter Tryz.func201, Tryz.ntmps201
  go_wp2_with fail
  refine HL.out.mono ?_
  rintro e1 w1 ⟨rfl, rfl⟩
  go_wp2_with fail
  go_ret
  exact ⟨rfl, rfl⟩
theorem dkey_calls {S : Nat → Prop} {pr : Int} {l : List Ent} {q n : Nat} (w : World) (h : DiS S pr l q n w) (hn : n ≤ 1000000) (i : Int) :
    Calls Tryz.prog 202 #[.pointer (some ⟨q, 0, none⟩), .int .i64 i] w fun e w' => e = .returned (.tuple #[.string ((keyP l i).getD ⟨#[]⟩), .bool (keyP l i).isSome]) ∧ Below w.heap.size w w' := by
  obtain ⟨d, h1, h2, h3⟩ := h
  have c1 : w.cell? ⟨q, 1, none⟩ = some (.pointer (some ⟨d, 0, none⟩)) := by rw [blk_cell h1]; rfl
  have HK : Hid (Calls Tryz.prog 207 #[.pointer (some ⟨d, 0, none⟩), .int .i64 i] w fun e w' => e = .returned (.tuple #[.string ((keyP l i).getD ⟨#[]⟩), .bool (keyP l i).isSome]) ∧ Below w.heap.size w w') := by
    refine hid ?_
    by_cases hi : 0 ≤ i ∧ i < l.length
    · obtain ⟨k, rfl⟩ : ∃ k : Nat, i = (k : Int) := ⟨i.toNat, by omega⟩
      have hk : k < l.length := by omega
      have hx := List.getElem?_eq_getElem hk
      have e : keyP l (k : Int) = some (l[k]).1 := by unfold keyP; rw [if_pos (by omega), Int.toNat_natCast, hx]; rfl
      rw [e]
      exact key_some w h2 hn hx
    · have e : keyP l i = none := by
        unfold keyP
        split
        · rw [List.getElem?_eq_none_iff.2 (by omega)]; rfl
        · rfl
      rw [e]
      exact (key_none w h2 i hi).mono (fun e1 w1 h => ⟨h.1, by rw [h.2]; exact Below.refl _ _⟩)
  clear h1 h2 h3
  generalize keyP l i = o at *
  go_enter Tryz.func202, Tryz.ntmps202
  go_wp2_with fail
  refine HK.out.mono ?_
  rintro e1 w1 ⟨rfl, b1⟩
  have B1 := hid b1
  clear b1
  go_wp2_with fail
  go_ret2
  exact ⟨rfl, B1.out⟩
set_option maxHeartbeats 1000000 in
theorem down_calls {S : Nat → Prop} {pr : Int} {l : List Ent} {q n : Nat} (w : World) (h : DiS S pr l q n w) (s : ByteArray) (hs : s.size ≤ 1000000) :
    Calls Tryz.prog 203 #[.pointer (some ⟨q, 0, none⟩), .string s] w fun e w' => e = .returned (.tuple #[vlV (gotV l s), .bool (hasL l s)]) ∧ Below w.heap.size w w' := by
  have A := (Below.refl w.heap.size w).alloc (Nat.le_refl _) (Obj.cells #[.int .i64 0, .int .i64 0, .string ⟨#[]⟩] 37)
  obtain ⟨d, h1, h2, h3⟩ := h
  have c1 : w.cell? ⟨q, 1, none⟩ = some (.pointer (some ⟨d, 0, none⟩)) := by rw [blk_cell h1]; rfl
  have hq := blk_lt h1
  have HV := hid (get_calls _ (h2.on A) s hs)
  have hS := hid (slot_new w rfl 37)
  have HA := hid A
  unfold vlV at HV ⊢
  clear h1 h2 A h3
  go_enter Tryz.func203, Tryz.ntmps203
  go_wp2_with fail
  refine HV.out.mono ?_
  rintro e2 w2 ⟨rfl, b2⟩
  have HS2 := hid (slot_on hS.out b2)
  have HB := hid (below_on HA.out b2)
  clear b2 hS HA HV
  obtain ⟨g0, g1, g2, g3, g4, g5, g6⟩ := HS2.out
  go_wp2_with fail
  exact bodyPost_ret (ret_ve rfl rfl (put3_cells HS2.out _ _ _)) rfl ⟨rfl, put3 HB.out (by simp) _ _ _⟩
set_option maxHeartbeats 1000000 in
theorem dchange_calls {S : Nat → Prop} {pr : Int} {l : List Ent} {q n : Nat} (w : World) (h : DiS S pr l q n w) (hn : n ≤ 1000000) (s : ByteArray) (hs : s.size ≤ 1000000) (x : Vl) :
    Calls Tryz.prog 200 #[.pointer (some ⟨q, 0, none⟩), .string s, vlV x] w fun e w' => e = .returned (.bool (hasL l s)) ∧ DiS (Up S w) pr (if hasL l s then setL l s x else l) q (if hasL l s then n + 1 else n) w' ∧ Keep S w w' := by
  have A := (Below.refl w.heap.size w).alloc (Nat.le_refl _) (Obj.cells #[.int .i64 x.1, .int .i64 x.2.1, .string x.2.2] 37)
  have hd := h
  obtain ⟨d, h1, h2, h3⟩ := h
  have c1 : w.cell? ⟨q, 1, none⟩ = some (.pointer (some ⟨d, 0, none⟩)) := by rw [blk_cell h1]; rfl
  have hq := blk_lt h1
  have HV := hid (get_calls _ (h2.on A) s hs)
  have HA := hid A
  have hcv0 : (w.alloc (Obj.cells #[.int .i64 x.1, .int .i64 x.2.1, .string x.2.2] 37)).cell? ⟨w.heap.size, 0, none⟩ = some (.int .i64 x.1) := by simp
  have hcv1 : (w.alloc (Obj.cells #[.int .i64 x.1, .int .i64 x.2.1, .string x.2.2] 37)).cell? ⟨w.heap.size, 1, none⟩ = some (.int .i64 x.2.1) := by simp
  have hcv2 : (w.alloc (Obj.cells #[.int .i64 x.1, .int .i64 x.2.1, .string x.2.2] 37)).cell? ⟨w.heap.size, 2, none⟩ = some (.string x.2.2) := by simp
  have hwl : w.heap.size < (w.alloc (Obj.cells #[.int .i64 x.1, .int .i64 x.2.1, .string x.2.2] 37)).heap.size := by simp
  have HD := hid hd
  have HB := hid h1
  have HC := hid h2
  have HQ := hid h3
  have d1 := hcell_on c1 hq A
  have hq1 : q < (w.alloc (Obj.cells #[.int .i64 x.1, .int .i64 x.2.1, .string x.2.2] 37)).heap.size := by simp; omega
  clear h1 h2 A h3 hd
  cases hh : hasL l s with
  | false =>
    rw [hh] at HV
    rw [if_neg (by simp), if_neg (by simp)]
    unfold vlV at HV ⊢
    generalize gotV l s = z at *
    go_enter Tryz.func200, Tryz.ntmps200
    go_wp2_with fail
    generalize hW : w.alloc (Obj.cells #[.int .i64 x.1, .int .i64 x.2.1, .string x.2.2] 37) = W at *
    refine HV.out.mono ?_
    rintro e2 w2 ⟨rfl, b2⟩
    have B2 := hid (below_in HA.out (Nat.le_refl _) b2)
    clear b2 HV HA
    go_wp2_with fail
    go_ret
    have k := B2.out.trans ((Below.refl w.heap.size w2).alloc B2.out.size (Obj.cells #[.int .i64 z.1, .int .i64 z.2.1, .string z.2.2] 37))
    exact ⟨rfl, ((HD.out.on k).mono (fun _ _ h => .inl h) (Nat.le_refl _)), Keep.of k⟩
  | true =>
    rw [hh] at HV
    rw [if_pos rfl, if_pos rfl]
    unfold vlV at HV ⊢
    generalize gotV l s = z at *
    go_enter Tryz.func200, Tryz.ntmps200
    go_wp2_with fail
    generalize hW : w.alloc (Obj.cells #[.int .i64 x.1, .int .i64 x.2.1, .string x.2.2] 37) = W at *
    refine HV.out.mono ?_
    rintro e2 w2 ⟨rfl, b2⟩
    have B2 := hid (below_in HA.out (Nat.le_refl _) b2)
    have e0 := hcell_on hcv0 hwl b2
    have e1 := hcell_on hcv1 hwl b2
    have e2 := hcell_on hcv2 hwl b2
    have eq1 := hcell_on d1 hq1 b2
    have hw2 : w.heap.size < w2.heap.size := Nat.lt_of_lt_of_le hwl b2.size
    have hq2 : q < w2.heap.size := Nat.lt_of_lt_of_le hq1 b2.size
    clear b2 HV HA hcv0 hcv1 hcv2 d1 c1
    have kz := ((Below.refl w2.heap.size w2).alloc (Nat.le_refl _) (Obj.cells #[.int .i64 z.1, .int .i64 z.2.1, .string z.2.2] 37)).drew
    have B3 := hid (below_in B2.out (Nat.le_refl _) kz)
    have HS := hid (dset_calls _ ((HC.out.mono (T := fun b => (S b ∧ b ≠ q) ∧ b < w.heap.size) (fun b hb h => ⟨h, hb⟩) (Nat.le_refl _)).on B3.out) hn s hs x)
    unfold vlV at HS
    clear kz
    go_wp2_with fail
    refine wp_region_held_drew (S := fun a => a.cell? ⟨q, 1, none⟩ = some (.pointer (some ⟨d, 0, none⟩)) ∧ a.cell? ⟨w.heap.size, 0, none⟩ = some (.int .i64 x.1) ∧ a.cell? ⟨w.heap.size, 1, none⟩ = some (.int .i64 x.2.1) ∧ a.cell? ⟨w.heap.size, 2, none⟩ = some (.string x.2.2)) (by kernel_rfl) ?_ (fun hHeld => ?_)
    · (refine ⟨?_, ?_, ?_, ?_⟩ <;> go_simp)
    refine tkk 0 ?_
    refine tkk 1 ?_
    refine tkk 2 ?_
    refine tkk 3 ?_
    refine tkk 4 ?_
    refine tkk 5 ?_
    refine rdy 6 (fun K hK => ?_)
    go_simp
    refine HS.out.mono ?_
    rintro e3 w3 ⟨rfl, h3, k3⟩
    have hz : w.heap.size < ((w2.alloc (Obj.cells #[.int .i64 z.1, .int .i64 z.2.1, .string z.2.2] 37)).drew).heap.size := by simp; omega
    have R : Hid (DiS (Up S w) pr (setL l s x) q (n + 1) w3 ∧ Keep S w w3) := by
      refine hid ⟨⟨d, blk_keep (blk_on HB.out B3.out) k3 (fun h => h.1.2 rfl), h3.mono (fun b _ h => ?_) (Nat.le_refl _), .inl HQ.out⟩, (Keep.of B3.out).trans k3 (fun b _ h => h.1.1)⟩
      rcases h with h | h
      · exact ⟨.inl h.1.1, h.1.2⟩
      · exact ⟨.inr (by omega), by omega⟩
    have y0 := hcell_keep (c := w3) (a := (w2.alloc (Obj.cells #[.int .i64 z.1, .int .i64 z.2.1, .string z.2.2] 37)).drew) (g := q) (i := 1) (v := .pointer (some ⟨d, 0, none⟩)) (by go_simp) (by simp; omega) k3 (fun h => h.1.2 rfl)
    have y1 := hcell_keep (c := w3) (a := (w2.alloc (Obj.cells #[.int .i64 z.1, .int .i64 z.2.1, .string z.2.2] 37)).drew) (g := w.heap.size) (i := 0) (v := .int .i64 x.1) (by go_simp) hz k3 (fun h => Nat.lt_irrefl _ h.2)
    have y2 := hcell_keep (c := w3) (a := (w2.alloc (Obj.cells #[.int .i64 z.1, .int .i64 z.2.1, .string z.2.2] 37)).drew) (g := w.heap.size) (i := 1) (v := .int .i64 x.2.1) (by go_simp) hz k3 (fun h => Nat.lt_irrefl _ h.2)
    have y3 := hcell_keep (c := w3) (a := (w2.alloc (Obj.cells #[.int .i64 z.1, .int .i64 z.2.1, .string z.2.2] 37)).drew) (g := w.heap.size) (i := 2) (v := .string x.2.2) (by go_simp) hz k3 (fun h => Nat.lt_irrefl _ h.2)
    clear h3 k3
    go_simp
    refine hK.out _ _ ?_ (fun _ => ?_)
    · (refine ⟨?_, ?_, ?_, ?_⟩ <;> (first | assumption | go_simp))
    clear hK K
    refine wpAnyH_done (by kernel_rfl) ?_ _
    go_wp2_with fail
    go_ret
    exact ⟨rfl, R.out⟩

end Go.Proofs.YtimhgbcanmgajaaGreat
