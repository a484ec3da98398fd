/- The heap in memory, and what its calls tell. -/
import Derived.Test.YtimhgbcanmgajaaGreatHpSlot
import Derived.Test.YtimhgbcanmgajaaGreatJoint11
namespace Go.Proofs.YtimhgbcanmgajaaGreat
set_option linter.unusedSimpArgs false
set_option maxRecDepth 100000
open Go.RowKit

/-- a heap in memory: objects' blocks by colours, object i of colour 4 + i -/
structure HpAt (K : Nat) (H : He) (h s c n f : Nat) (v : Value) (g q : Nat → Nat) (col : Nat → Nat) (w : World) : Prop where
  wf : WfH K H
  bh : Blk h 83 #[.pointer (some ⟨s, 0, none⟩)] w
  bs : Blk s 81 #[.int .i64 (H.most : Int), .int .i64 (H.props : Int), .pointer (some ⟨c, 0, none⟩), v] w
  row : w.ownsRow 0 120 1 v H.os.length (rowL g H.os.length)
  cls : Cls H c n f col w
  ob : ∀ (i : Nat) (x : Ob), H.os[i]? = some x → Blk (g i) 135 #[ivO x (q i), .int .i64 (x.ep : Int)] w ∧ KeptO K c x (q i) (fun b => col b = 4 + i) w ∧ col (g i) = 1
  gi : ∀ i j, i < H.os.length → j < H.os.length → g i = g j → i = j
  one : col h = 1 ∧ col s = 1 ∧ col c = 1 ∧ ∀ b, v.ownBlock = some b → col b = 1
  top : ∀ b, w.heap.size ≤ b → col b = 0
theorem HpAt.on {K : Nat} {H : He} {h s c n f : Nat} {v : Value} {g q col : Nat → Nat} {a b : World} (p : HpAt K H h s c n f v g q col a) (k : Below a.heap.size a b) : HpAt K H h s c n f v g q col b :=
  ⟨p.wf, blk_on p.bh k, blk_on p.bs k, row_keep p.row (fun x hx => by obtain ⟨cur, hc⟩ := row_lt p.row hx; exact k.block x (blk_lt hc)), p.cls.on k, fun i x hi => ⟨blk_on (p.ob i x hi).1 k, (p.ob i x hi).2.1.on k, (p.ob i x hi).2.2⟩, p.gi, p.one, fun x hx => p.top x (Nat.le_trans k.size hx)⟩
theorem HpAt.named {K : Nat} {H : He} {h s c n f : Nat} {v : Value} {g q col : Nat → Nat} {w : World} (p : HpAt K H h s c n f v g q col w) (hK : K ≤ 1000000) {i : Nat} {x : Ob} (hi : H.os[i]? = some x) (h0 : x.sh ≠ 0) :
    Named H x.sh x.l ∧ protoF H.L x.sh = (x.pr : Int) ∧ ∃ y, getS H.L x.sh = some y := by
  obtain ⟨ns, h1, h2⟩ := (p.wf.obs i x hi).sh h0
  obtain ⟨j, hj, hL⟩ := getS_some h1
  refine ⟨⟨by rw [h2]; unfold namesF; rw [h1], fun y hy => ?_, Nat.le_trans p.wf.nl hK⟩, by unfold protoF; rw [h1], _, h1⟩
  unfold namesF at hy
  rw [h1] at hy
  exact p.wf.nums j _ hL y hy
theorem HpAt.slot {K : Nat} {H : He} {h s c n f : Nat} {v : Value} {g q col : Nat → Nat} {w : World} (p : HpAt K H h s c n f v g q col w) {i : Nat} {x : Ob} (hi : H.os[i]? = some x) (h0 : x.sh ≠ 0) (nm : ByteArray) :
    slotL x.l (slotN H.N H.L x.sh nm) = look x.l nm ∧ ∀ u, hasL x.l nm = true → putL x.l (slotN H.N H.L x.sh nm) u = setL x.l nm u := by
  rcases slot_of p.wf.wfs p.wf.nd p.wf.nums (p.wf.obs i x hi) h0 nm with ⟨k, v, h1, h2, h3⟩ | ⟨h1, h2⟩
  · rw [h1, h3]
    exact ⟨slotL_at h2, fun u _ => by rw [putL_at u h2, setL_at u (p.wf.obs i x hi).ok.1 h2]⟩
  · rw [h1, h2]
    refine ⟨rfl, fun u hh => ?_⟩
    unfold hasL at hh
    rw [h2] at hh
    cases hh
/-- a heap at h, in the blocks of S -/
def HpZ (S : Nat → Prop) (K h s : Nat) (H : He) (w : World) : Prop := ∃ c n f v g q col, HpAt K H h s c n f v g q col w ∧ ∀ b, col b ≠ 0 → S b
/-- wherever its store is -/
def HpS (S : Nat → Prop) (K h : Nat) (H : He) (w : World) : Prop := ∃ s, HpZ S K h s H w
theorem HpZ.s {S : Nat → Prop} {K h s : Nat} {H : He} {w : World} (p : HpZ S K h s H w) : HpS S K h H w := ⟨s, p⟩
theorem HpZ.on {S : Nat → Prop} {K h s : Nat} {H : He} {a b : World} (p : HpZ S K h s H a) (k : Below a.heap.size a b) : HpZ S K h s H b := by
  obtain ⟨c, n, f, v, g, q, col, p, hS⟩ := p
  exact ⟨c, n, f, v, g, q, col, p.on k, hS⟩
theorem HpZ.mono {S T : Nat → Prop} {K h s : Nat} {H : He} {w : World} (p : HpZ S K h s H w) (hS : ∀ b, b < w.heap.size → S b → T b) : HpZ T K h s H w := by
  obtain ⟨c, n, f, v, g, q, col, p, hs⟩ := p
  exact ⟨c, n, f, v, g, q, col, p, fun b hb => hS b (Nat.lt_of_not_le (fun h => hb (p.top b h))) (hs b hb)⟩
theorem HpZ.keep {S T : Nat → Prop} {K h s : Nat} {H : He} {a b : World} (p : HpZ S K h s H a) (k : Keep T a b) (hT : ∀ b, b < a.heap.size → S b → ¬ T b) : HpZ S K h s H b := by
  obtain ⟨c, n, f, v, g, q, col, p, hs⟩ := p
  have hlt : ∀ x, col x ≠ 0 → x < a.heap.size := fun x hx => Nat.lt_of_not_le (fun h => hx (p.top x h))
  have hn : ∀ x, col x ≠ 0 → ¬ T x := fun x hx => hT x (hlt x hx) (hs x hx)
  have o := p.one
  refine ⟨c, n, f, v, g, q, col, ⟨p.wf, blk_keep p.bh k (hn _ (by rw [o.1]; decide)), blk_keep p.bs k (hn _ (by rw [o.2.1]; decide)), row_keep p.row (fun x hx => k.block x (hlt x (by rw [o.2.2.2 x hx]; decide)) (hn x (by rw [o.2.2.2 x hx]; decide))),
    p.cls.keep k (hn _ (by rw [o.2.2.1]; decide)) (fun x _ e => hn x (by rcases e with e | e <;> rw [e] <;> decide)), fun i x hi => ⟨blk_keep (p.ob i x hi).1 k (hn _ (by rw [(p.ob i x hi).2.2]; decide)), (p.ob i x hi).2.1.keep k (fun y _ e => hn y (by rw [e]; omega)), (p.ob i x hi).2.2⟩, p.gi, p.one, fun x hx => p.top x (Nat.le_trans k.size hx)⟩, hs⟩
theorem HpS.on {S : Nat → Prop} {K h : Nat} {H : He} {a b : World} (p : HpS S K h H a) (k : Below a.heap.size a b) : HpS S K h H b := by
  obtain ⟨s, c, n, f, v, g, q, col, p, hS⟩ := p
  exact ⟨s, c, n, f, v, g, q, col, p.on k, hS⟩
theorem HpS.wf {S : Nat → Prop} {K h : Nat} {H : He} {w : World} (p : HpS S K h H w) : WfH K H := by
  obtain ⟨s, c, n, f, v, g, q, col, p, hS⟩ := p
  exact p.wf
theorem HpS.mono {S T : Nat → Prop} {K h : Nat} {H : He} {w : World} (p : HpS S K h H w) (hS : ∀ b, b < w.heap.size → S b → T b) : HpS T K h H w := by
  obtain ⟨s, c, n, f, v, g, q, col, p, hs⟩ := p
  exact ⟨s, c, n, f, v, g, q, col, p, fun b hb => hS b (Nat.lt_of_not_le (fun h => hb (p.top b h))) (hs b hb)⟩
theorem HpS.keep {S T : Nat → Prop} {K h : Nat} {H : He} {a b : World} (p : HpS S K h H a) (k : Keep T a b) (hT : ∀ b, b < a.heap.size → S b → ¬ T b) : HpS S K h H b := by
  obtain ⟨s, p⟩ := p
  exact ⟨s, p.keep k hT⟩
theorem hmade_calls {S : Nat → Prop} {K h : Nat} {H : He} (w : World) (p : HpS S K h H w) :
    Calls Tryz.prog 50 #[.pointer (some ⟨h, 0, none⟩)] w fun e w' => e = .returned (.bool true) ∧ w' = w := by
  obtain ⟨s, c, n, f, v, g, q, col, p, hS⟩ := p
  have c0 : w.cell? ⟨h, 0, none⟩ = some (.pointer (some ⟨s, 0, none⟩)) := by rw [blk_cell p.bh]; rfl
  clear p hS
  go_enter Tryz.func50, Tryz.ntmps50
  go_wp2_with fail
  go_ret
  exact ⟨rfl, rfl⟩
theorem hlen_calls {S : Nat → Prop} {K h : Nat} {H : He} (w : World) (p : HpS S K h H w) :
    Calls Tryz.prog 44 #[.pointer (some ⟨h, 0, none⟩)] w fun e w' => e = .returned (.int .i64 (H.os.length : Int)) ∧ w' = w := by
  have HM := hid (hmade_calls w p)
  obtain ⟨s, c, n, f, v, g, q, col, p, hS⟩ := p
  have c0 : w.cell? ⟨h, 0, none⟩ = some (.pointer (some ⟨s, 0, none⟩)) := by rw [blk_cell p.bh]; rfl
  have c1 : w.cell? ⟨s, 3, none⟩ = some v := by rw [blk_cell p.bs]; rfl
  obtain ⟨ao, cap, rfl⟩ := row_shape p.row
  clear p hS
  go_enter Tryz.func44, Tryz.ntmps44
  go_wp2_with fail
  refine HM.out.mono ?_
  rintro e1 w1 ⟨rfl, rfl⟩
  go_wp2_with fail
  go_ret
  exact ⟨rfl, rfl⟩
theorem hat_none {S : Nat → Prop} {K h : Nat} {H : He} (w : World) (p : HpS S K h H w) {o : Int} (ho : getO H o = none) :
    Calls Tryz.prog 45 #[.pointer (some ⟨h, 0, none⟩), .int .i64 o] w fun e w' => e = .returned (.pointer none) ∧ w' = w := by
  have HL := hid (hlen_calls w p)
  have hn := getO_none ho
  clear p ho
  by_cases h1 : o < 1
  · go_enter Tryz.func45, Tryz.ntmps45
    go_wp2_with fail
    go_ret
    exact ⟨rfl, rfl⟩
  · have h2 : (H.os.length : Int) < o := by omega
    clear hn
    go_enter Tryz.func45, Tryz.ntmps45
    go_wp2_with fail
    refine HL.out.mono ?_
    rintro e1 w1 ⟨rfl, rfl⟩
    go_wp2_with fail
    go_ret
    exact ⟨rfl, rfl⟩
theorem hat_some {K : Nat} {H : He} {h s c n f : Nat} {v : Value} {g q col : Nat → Nat} (w : World) (p : HpAt K H h s c n f v g q col w) {i : Nat} (hi : i < H.os.length) :
    Calls Tryz.prog 45 #[.pointer (some ⟨h, 0, none⟩), .int .i64 ((i + 1 : Nat) : Int)] w fun e w' => e = .returned (.pointer (some ⟨g i, 0, none⟩)) ∧ w' = w := by
  have HL := hid (hlen_calls (S := fun _ => True) w ⟨s, c, n, f, v, g, q, col, p, fun _ _ => trivial⟩)
  have c0 : w.cell? ⟨h, 0, none⟩ = some (.pointer (some ⟨s, 0, none⟩)) := by rw [blk_cell p.bh]; rfl
  have c1 : w.cell? ⟨s, 3, none⟩ = some v := by rw [blk_cell p.bs]; rfl
  have hlen : H.os.length ≤ 200 := by have := p.wf.len; have := p.wf.most; omega
  obtain ⟨gb, cap, rfl, _, hgb⟩ := p.row.form (by omega)
  have c2 := row_cell p.row (rowL_at g hi)
  clear p
  have e1 : ((i + 1 : Nat) : Int) = (i : Int) + 1 := by omega
  rw [e1]
  generalize H.os.length = L at *
  go_enter Tryz.func45, Tryz.ntmps45
  go_wp2_with fail
  refine HL.out.mono ?_
  rintro e1 w1 ⟨rfl, rfl⟩
  go_wp2_with fail
  go_ret
  exact ⟨rfl, rfl⟩
set_option maxHeartbeats 1000000 in
theorem hepoch_calls {S : Nat → Prop} {K h : Nat} {H : He} (w : World) (p : HpS S K h H w) (o : Int) :
    Calls Tryz.prog 75 #[.pointer (some ⟨h, 0, none⟩), .int .i64 o] w fun e w' => e = .returned (.int .i64 (epochH H o : Int)) ∧ Below w.heap.size w w' := by
  cases hg : getO H o with
  | none =>
    rw [show epochH H o = 0 by unfold epochH; rw [hg]]
    have HN := hid (hat_none w p hg)
    clear p hg
    go_enter Tryz.func75, Tryz.ntmps75
    go_wp2_with fail
    refine HN.out.mono ?_
    rintro e1 w1 ⟨rfl, rfl⟩
    go_wp2_with fail
    go_ret
    exact ⟨rfl, Below.refl _ _⟩
  | some x =>
    rw [show epochH H o = x.ep by unfold epochH; rw [hg]]
    obtain ⟨i, rfl, hi⟩ := getO_some hg
    obtain ⟨s, c, n, f, v, g, q, col, p, hS⟩ := p
    have HN := hid (hat_some w p (lt_of_get hi))
    obtain ⟨b1, hk, _⟩ := p.ob i x hi
    have hgl := blk_lt b1
    have e1 : w.cell? ⟨g i, 1, none⟩ = some (.int .i64 (x.ep : Int)) := by rw [blk_cell b1]; rfl
    clear p hk b1 hS hg hi
    generalize ((i + 1 : Nat) : Int) = o at *
    go_enter Tryz.func75, Tryz.ntmps75
    go_wp2_with fail
    refine HN.out.mono ?_
    rintro e1 w1 ⟨rfl, rfl⟩
    go_wp2_with fail
    go_ret
    exact ⟨rfl, Below.refl _ _⟩
set_option maxHeartbeats 1000000 in
theorem hproto_calls {S : Nat → Prop} {K h : Nat} {H : He} (w : World) (p : HpS S K h H w) (hK : K ≤ 900000) (o : Int) :
    Calls Tryz.prog 58 #[.pointer (some ⟨h, 0, none⟩), .int .i64 o] w fun e w' => e = .returned (.int .i64 (protoH H o : Int)) ∧ Below w.heap.size w w' := by
  cases hg : getO H o with
  | none =>
    rw [show protoH H o = 0 by unfold protoH; rw [hg]]
    have HN := hid (hat_none w p hg)
    clear p hg
    go_enter Tryz.func58, Tryz.ntmps58
    go_wp2_with fail
    refine HN.out.mono ?_
    rintro e1 w1 ⟨rfl, rfl⟩
    go_wp2_with fail
    go_ret
    exact ⟨rfl, Below.refl _ _⟩
  | some x =>
    rw [show protoH H o = x.pr by unfold protoH; rw [hg]]
    obtain ⟨i, rfl, hi⟩ := getO_some hg
    obtain ⟨s, c, n, f, v, g, q, col, p, hS⟩ := p
    have HN := hid (hat_some w p (lt_of_get hi))
    obtain ⟨b1, hk, _⟩ := p.ob i x hi
    have hgl := blk_lt b1
    have e1 : w.cell? ⟨g i, 1, none⟩ = some (.int .i64 (x.ep : Int)) := by rw [blk_cell b1]; rfl
    rcases hk with ⟨h0, vv, h1, _⟩ | ⟨h0, m, h1, hm⟩
    · have e0 : w.cell? ⟨g i, 0, none⟩ = some (.iface 161 (.pointer (some ⟨q i, 0, none⟩))) := by rw [blk_cell b1]; simp [ivO, h0]
      have HV := hid (sproto_calls w p.cls h1)
      rw [(p.named (by omega) hi h0).2.1] at HV
      clear p h1 b1 hS hg hi h0
      generalize ((i + 1 : Nat) : Int) = o at *
      go_enter Tryz.func58, Tryz.ntmps58
      go_wp2_with fail
      refine HN.out.mono ?_
      rintro e1 w1 ⟨rfl, rfl⟩
      go_wp2_with fail
      refine HV.out.mono ?_
      rintro e2 w2 ⟨rfl, b2⟩
      have B2 := hid b2
      clear b2 HV
      go_wp2_with fail
      go_ret
      exact ⟨rfl, B2.out⟩
    · have e0 : w.cell? ⟨g i, 0, none⟩ = some (.iface 199 (.pointer (some ⟨q i, 0, none⟩))) := by rw [blk_cell b1]; simp [ivO, h0]
      have HV := hid (dproto_calls w h1)
      clear p h1 b1 hS hg hi h0 hm
      generalize ((i + 1 : Nat) : Int) = o at *
      go_enter Tryz.func58, Tryz.ntmps58
      go_wp2_with fail
      refine HN.out.mono ?_
      rintro e1 w1 ⟨rfl, rfl⟩
      go_wp2_with fail
      refine HV.out.mono ?_
      rintro e2 w2 ⟨rfl, b2⟩
      have B2 := hid b2
      clear b2 HV
      go_wp2_with fail
      go_ret
      exact ⟨rfl, B2.out⟩
set_option maxHeartbeats 1000000 in
theorem hown_calls {S : Nat → Prop} {K h : Nat} {H : He} (w : World) (p : HpS S K h H w) (o : Int) (nm : ByteArray) (hs : nm.size ≤ 1000000) :
    Calls Tryz.prog 59 #[.pointer (some ⟨h, 0, none⟩), .int .i64 o, .string nm] w fun e w' => e = .returned (.tuple #[vlV (vlO (ownH H o nm)), .bool (ownH H o nm).isSome]) ∧ Below w.heap.size w w' := by
  have A := (Below.refl w.heap.size w).alloc (Nat.le_refl _) (Obj.cells #[.int .i64 0, .int .i64 0, .string ⟨#[]⟩] 37)
  have hSl := hid (slot_new w rfl 37)
  have HA := hid A
  replace p := p.on A
  cases hg : getO H o with
  | none =>
    rw [show ownH H o nm = none by unfold ownH; rw [hg]]
    have HN := hid (hat_none _ p hg)
    clear p hg A
    unfold vlV vlO
    dsimp only [Option.getD_none, vl0, Option.isSome_none]
    go_enter Tryz.func59, Tryz.ntmps59
    go_wp2_with fail
    refine HN.out.mono ?_
    rintro e1 w1 ⟨rfl, rfl⟩
    go_wp2_with fail
    exact bodyPost_ret (ret_ve rfl rfl ⟨by simp, by simp, by simp⟩) rfl ⟨rfl, HA.out⟩
  | some x =>
    rw [show ownH H o nm = look x.l nm by unfold ownH; rw [hg]]
    obtain ⟨i, rfl, hi⟩ := getO_some hg
    obtain ⟨s, c, n, f, v, g, q, col, p, hS⟩ := p
    have HN := hid (hat_some _ p (lt_of_get hi))
    obtain ⟨b1, hk, _⟩ := p.ob i x hi
    have hgl := blk_lt b1
    have e1 : (w.alloc (Obj.cells #[.int .i64 0, .int .i64 0, .string ⟨#[]⟩] 37)).cell? ⟨g i, 1, none⟩ = some (.int .i64 (x.ep : Int)) := by rw [blk_cell b1]; rfl
    rcases hk with ⟨h0, vv, h1, _⟩ | ⟨h0, m, h1, hm⟩
    · have e0 : (w.alloc (Obj.cells #[.int .i64 0, .int .i64 0, .string ⟨#[]⟩] 37)).cell? ⟨g i, 0, none⟩ = some (.iface 161 (.pointer (some ⟨q i, 0, none⟩))) := by rw [blk_cell b1]; simp [ivO, h0]
      have HV := hid (sown_calls _ p.cls h1 nm hs)
      rw [(p.slot hi h0 nm).1] at HV
      generalize look x.l nm = z at *
      unfold vlV at HV ⊢
      clear p h1 b1 hS hg hi h0 A
      generalize ((i + 1 : Nat) : Int) = o at *
      go_enter Tryz.func59, Tryz.ntmps59
      go_wp2_with fail
      refine HN.out.mono ?_
      rintro e1 w1 ⟨rfl, rfl⟩
      go_wp2_with fail
      refine HV.out.mono ?_
      rintro e2 w2 ⟨rfl, b2⟩
      have HS2 := hid (slot_on hSl.out b2)
      have HB := hid (below_on HA.out b2)
      clear b2 hSl HA HV
      obtain ⟨g0, g1, g2, g3, g4, g5, g6⟩ := HS2.out
      go_wp2_with fail
      exact bodyPost_ret (ret_ve rfl rfl (put3_cells HS2.out _ _ _)) rfl ⟨rfl, put3 HB.out (by simp) _ _ _⟩
    · have e0 : (w.alloc (Obj.cells #[.int .i64 0, .int .i64 0, .string ⟨#[]⟩] 37)).cell? ⟨g i, 0, none⟩ = some (.iface 199 (.pointer (some ⟨q i, 0, none⟩))) := by rw [blk_cell b1]; simp [ivO, h0]
      have HV := hid (down_calls _ h1 nm hs)
      unfold gotV hasL at HV
      unfold vlO
      generalize look x.l nm = z at *
      unfold vlV at HV ⊢
      clear p h1 b1 hS hg hi h0 A hm
      generalize ((i + 1 : Nat) : Int) = o at *
      go_enter Tryz.func59, Tryz.ntmps59
      go_wp2_with fail
      refine HN.out.mono ?_
      rintro e1 w1 ⟨rfl, rfl⟩
      go_wp2_with fail
      refine HV.out.mono ?_
      rintro e2 w2 ⟨rfl, b2⟩
      have HS2 := hid (slot_on hSl.out b2)
      have HB := hid (below_on HA.out b2)
      clear b2 hSl HA HV
      obtain ⟨g0, g1, g2, g3, g4, g5, g6⟩ := HS2.out
      go_wp2_with fail
      exact bodyPost_ret (ret_ve rfl rfl (put3_cells HS2.out _ _ _)) rfl ⟨rfl, put3 HB.out (by simp) _ _ _⟩

end Go.Proofs.YtimhgbcanmgajaaGreat
