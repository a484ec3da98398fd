/- One element more at the end of a row of one's own: append(row, x). Set, as a dict has it. Of: a text's number, a new one if it has none. -/
import Derived.Test.YtemidicgipebjaaGreatMapG
import Derived.Test.YtemidicgipebjaaGreatJoint2
import Derived.Test.YtemidicgipebjaaGreatDcSet
import Derived.Test.YtemidicgipebjaaGreatJoint4
namespace Go.Proofs.YtemidicgipebjaaGreat
open Go.RowKit

/-- what a row's element type is: cells, bytes -/
def Elem (sT eT : TypeId) (z bytes : Nat) : Prop := Tryz.prog.underlying sT = some (.slice eT) ∧ ∃ i z0, Tryz.prog.info? eT = some i ∧ i.zero = some z0 ∧ z0.cells.size = z ∧ i.size = z ∧ i.bytes = bytes
theorem elem_of {sT eT : TypeId} {z bytes : Nat} {z0 : Value} (h1 : Tryz.prog.underlying sT = some (.slice eT)) (h2 : (Tryz.prog.info? eT).map (fun i => (i.zero, i.size, i.bytes)) = some (some z0, z, bytes)) (h3 : z0.cells.size = z) : Elem sT eT z bytes := by
  obtain ⟨i0, a, b, c, d⟩ := info_parts h2
  exact ⟨h1, i0, z0, a, b, h3, c, d⟩
theorem row_app_wp {sT eT : TypeId} {z bytes : Nat} (hE : Elem sT eT z bytes) (hz : 0 < z) (hby : bytes ≤ 1000) {o : Oper} {a : Act} {K : Act → World → Prop} {Q : Exit → Act → World → Prop} {w W : World} (s x : Operand)
    (ho : o.op = .call { callee := .builtin .append, args := #[s, x], argTypes := #[sT, sT] }) (n : Nat) (xs news : List Value) (hnl : news.length = z) (one : ∀ u ∈ news, u.oneCell' = true) (v : Value) (hs : a.eval s = v) (hown : w.ownsRow 0 eT z v n xs)
    (nb : Nat) (hx : a.eval x = .slice (some ⟨nb, 0, none⟩) 1 1) (hnb : nb = w.heap.size) (hlen : n ≤ 1000000) (hW : W = w.alloc (.cells news.toArray eT) ∨ W = (w.alloc (.cells news.toArray eT)).drew ∨ W = w.drew.alloc (.cells news.toArray eT))
    (h : ∀ g cap w', w'.ownsRow 0 eT z (.slice (some ⟨g, 0, none⟩) (n + 1) cap) (n + 1) (xs ++ news) → w.grownBy w' v.ownBlock → (v.ownBlock = some g ∨ w.heap.size ≤ g) → K (a.put o.dst (.slice (some ⟨g, 0, none⟩) (n + 1) cap)) w') : o.wp Tryz.prog a W K Q := by
  subst hnb
  obtain ⟨hu, i0, z0, hi, hz0, hzc, hz1, hz2⟩ := hE
  have A : Below w.heap.size w W := by
    rcases hW with rfl | rfl | rfl
    · exact (Below.refl w.heap.size w).alloc (Nat.le_refl _) _
    · exact ((Below.refl w.heap.size w).alloc (Nat.le_refl _) _).drew
    · exact (Below.refl w.heap.size w).drew.alloc (Nat.le_refl _) _
  have hsz : W.heap.size = w.heap.size + 1 := by rcases hW with rfl | rfl | rfl <;> simp
  have hnew : W.heap[w.heap.size]? = some (.cells news.toArray eT (0, 0)) := by
    rcases hW with rfl | rfl | rfl
    · exact heap_alloc_new w _
    · exact heap_alloc_new w _
    · exact heap_alloc_new w.drew _
  have hb : (n + 1) * bytes ≤ 140737488355328 := by
    have h1 : (n + 1) * bytes ≤ 1000001 * 1000 := Nat.mul_le_mul (by omega) hby
    omega
  refine wp_append_lies _ s x sT ho 0 eT i0 z0 z bytes hu hi hz0 hz1 hz2 hzc hz v n xs hs (row_keep hown (fun g hg => by
    obtain ⟨cur, hc⟩ := row_lt hown hg
    exact A.block g (blk_lt hc))) ⟨w.heap.size, 0, none⟩ 1 1 news hx (by omega) (World.news_of_block hnew) one (by decide) (by unfold maxLen; omega) hb (Nat.zero_le _) (w.heap.size + 1) hsz ?_
  intro g cap w' hown' hgrow hat hlt
  refine h g cap w' hown' ?_ ?_
  · refine ⟨hgrow.os.trans A.os, hgrow.tape.trans A.tape, hgrow.output.trans A.output, Nat.le_trans A.size hgrow.size, fun k hk hne => ?_⟩
    rw [hgrow.block k (by omega) hne, A.block k hk]
  · rcases hat with h1 | h1
    · exact .inl h1
    · exact .inr (by omega)
/-- in a plain region -/
theorem row_app {sT eT : TypeId} {z bytes : Nat} (hE : Elem sT eT z bytes) (hz : 0 < z) (hby : bytes ≤ 1000) {ops : Array Oper} {rest : List Oper} {o : Oper} {a : Act} {Q : Exit → Act → World → Prop} {w : World} (hgd : o.guard = none) (s x : Operand)
    (ho : o.op = .call { callee := .builtin .append, args := #[s, x], argTypes := #[sT, sT] }) (n : Nat) (xs news : List Value) (hnl : news.length = z) (one : ∀ u ∈ news, u.oneCell' = true) (v : Value) (hs : a.eval s = v) (hown : w.ownsRow 0 eT z v n xs)
    (nb : Nat) (hx : a.eval x = .slice (some ⟨nb, 0, none⟩) 1 1) (hnb : nb = w.heap.size) (hlen : n ≤ 1000000)
    (h : ∀ g cap w', w'.ownsRow 0 eT z (.slice (some ⟨g, 0, none⟩) (n + 1) cap) (n + 1) (xs ++ news) → w.grownBy w' v.ownBlock → (v.ownBlock = some g ∨ w.heap.size ≤ g) → wpList Tryz.prog ops Q rest (a.put o.dst (.slice (some ⟨g, 0, none⟩) (n + 1) cap)) w') :
    wpList Tryz.prog ops Q (o :: rest) a (w.alloc (.cells news.toArray eT)) :=
  wpList_plain hgd fun _ hK' => row_app_wp hE hz hby s x ho n xs news hnl one v hs hown nb hx hnb hlen (.inl rfl) fun g cap w' h1 h2 h3 => hK' _ _ (h g cap w' h1 h2 h3)
/-- as a step of a region that draws -/
theorem row_app_step {sT eT : TypeId} {z bytes : Nat} (hE : Elem sT eT z bytes) (hz : 0 < z) (hby : bytes ≤ 1000) {ops : Array Oper} {o : Oper} {a : Act} {K : Act → World → Prop} {Q : Exit → Act → World → Prop} {E : Prop} {w W : World} (hgd : o.guard = none) (s x : Operand)
    (ho : o.op = .call { callee := .builtin .append, args := #[s, x], argTypes := #[sT, sT] }) (n : Nat) (xs news : List Value) (hnl : news.length = z) (one : ∀ u ∈ news, u.oneCell' = true) (v : Value) (hs : a.eval s = v) (hown : w.ownsRow 0 eT z v n xs)
    (nb : Nat) (hx : a.eval x = .slice (some ⟨nb, 0, none⟩) 1 1) (hnb : nb = w.heap.size) (hlen : n ≤ 1000000) (hW : W = w.alloc (.cells news.toArray eT) ∨ W = (w.alloc (.cells news.toArray eT)).drew ∨ W = w.drew.alloc (.cells news.toArray eT))
    (h : ∀ g cap w', w'.ownsRow 0 eT z (.slice (some ⟨g, 0, none⟩) (n + 1) cap) (n + 1) (xs ++ news) → w.grownBy w' v.ownBlock → (v.ownBlock = some g ∨ w.heap.size ≤ g) → K (a.put o.dst (.slice (some ⟨g, 0, none⟩) (n + 1) cap)) w') :
    if Region.wanted o (yielded ops a.tmps) = true then Oper.wp Tryz.prog o a W K Q else E := by
  rw [if_pos (by simp [Region.wanted, hgd])]
  exact row_app_wp hE hz hby s x ho n xs news hnl one v hs hown nb hx hnb hlen hW h

end Go.Proofs.YtemidicgipebjaaGreat

namespace Go.Proofs.YtemidicgipebjaaGreat
set_option linter.unusedSimpArgs false
set_option maxRecDepth 100000
open Go.RowKit

theorem set_calls {p m : Nat} {v : Value} {L : Pls} (w : World) (h : PlAt p v m L w) (s : ByteArray) (hs : s.size ≤ 1000000) (x : Vl) (hf : L.length ≤ 1000000) :
    Calls Tryz.prog 118 #[.pointer (some ⟨p, 0, none⟩), .string s, vlV x] w fun e w' => e = .returned (.bool (!hasL (live L) s)) ∧
      ∃ v' L', PlAt p v' m L' w' ∧ live L' = setL (live L) s x ∧ L'.length ≤ L.length + 1 ∧ Keep (FtP p v m) w w' ∧ ∀ b, FtP p v' m b → FtP p v m b ∨ w.heap.size ≤ b := by
  cases hp : posL L s with
  | some i =>
    rw [show hasL (live L) s = true from by rw [← posL_has, hp]; rfl]
    refine (set_has w h s hs x hp).mono ?_
    rintro e w' ⟨rfl, h1, h2⟩
    exact ⟨rfl, v, _, h1, (posL_set x hp).1, by rw [List.length_set]; omega, h2, fun b hb => .inl hb⟩
  | none =>
    have hh : hasL (live L) s = false := by rw [← posL_has, hp]; rfl
    rw [hh]
    refine (set_new w h s hs x hp hf).mono ?_
    rintro e w' ⟨rfl, v', h1, h2, h3⟩
    exact ⟨rfl, v', _, h1, by rw [live_snoc, setL_new x hh], by simp, h2, h3⟩
theorem blk_far {p m d : Nat} {v : Value} {L : Pls} {cs : Array Value} {T : TypeId} {w : World} (h1 : Blk d T cs w) (h : PlAt p v m L w) (t1 : T ≠ 181) (t2 : T ≠ 183) : ¬ FtP p v m d := by
  have hd : w.heap[d]? = _ := h1
  rintro (e | e | e)
  · have hb : w.heap[p]? = _ := h.blk
    rw [← e, hd] at hb
    injection hb with hb; injection hb with _ hb
    exact t1 hb
  · obtain ⟨es, clock, hm⟩ := mapN_block h.map
    rw [← e, hd] at hm; cases hm
  · obtain ⟨cur, hc⟩ := row_lt h.row e
    have hb : w.heap[d]? = _ := hc
    rw [hd] at hb
    injection hb with hb; injection hb with _ hb
    exact t2 hb

set_option maxHeartbeats 1000000 in
theorem dset_calls {S : Nat → Prop} {d n : Nat} {l : List Ent} (w : World) (h : DcS S d n l w) (hn : n ≤ 1000000) (s : ByteArray) (hs : s.size ≤ 1000000) (x : Vl) :
    Calls Tryz.prog 92 #[.pointer (some ⟨d, 0, none⟩), .string s, vlV x] w fun e w' => e = .returned (.bool (!hasL l s)) ∧
      DcS (Up S w) d (n + 1) (setL l s x) w' ∧ Keep S w w' := by
  have A := (Below.refl w.heap.size w).alloc (Nat.le_refl _) (Obj.cells #[.int .i64 x.1, .int .i64 x.2.1, .string x.2.2] 26)
  have HD := hid ((h.on A).on ((Below.refl _ _).drew))
  obtain ⟨p, v, m, L, h1, h2, rfl, h4, h5, h6⟩ := h
  have c0 : w.cell? ⟨d, 0, none⟩ = some (.pointer (some ⟨p, 0, none⟩)) := by rw [blk_cell h1]; rfl
  have hd := blk_lt h1
  have HF := hid (blk_far h1 h2 (by decide) (by decide))
  have HB := hid h1
  have HP := hid ((h2.on A).drew)
  have HA := hid A.drew
  have H2 := hid h2
  have HS := hid (set_calls _ HP.out s hs x (by omega))
  clear h1 h2 A
  unfold vlV at HS ⊢
  go_enter Tryz.func92, Tryz.ntmps92
  go_wp2_with fail
  refine wp_region_held_drew (S := fun a => a.cell? ⟨d, 0, none⟩ = some (.pointer (some ⟨p, 0, none⟩)) ∧ a.cell? ⟨w.heap.size, 0, none⟩ = some (.int .i64 x.1) ∧ a.cell? ⟨w.heap.size, 1, none⟩ = some (.int .i64 x.2.1) ∧ a.cell? ⟨w.heap.size, 2, none⟩ = some (.string x.2.2)) (by kernel_rfl) ?_ (fun hHeld => ?_)
  · refine ⟨?_, ?_, ?_, ?_⟩ <;> go_simp
  refine tkk 0 ?_
  refine rdy 1 (fun K hK => ?_)
  go_simp
  refine (made_calls _ HD.out).mono ?_
  rintro e1 w1 ⟨rfl, rfl⟩
  go_simp
  refine hK.out _ _ hHeld (fun _ => ?_)
  clear hK K
  try simp only [Act.put, List.setIfInBounds_toArray, List.set_cons_zero, List.set_cons_succ, List.getElem_toArray, List.getElem_cons_succ, List.getElem_cons_zero]
  refine tkk 2 ?_
  refine tkk 3 ?_
  refine tkk 4 ?_
  refine tkk 5 ?_
  refine tkk 6 ?_
  refine tkk 7 ?_
  refine tkk 8 ?_
  refine rdy 9 (fun K hK => ?_)
  go_simp
  refine HS.out.mono ?_
  rintro e2 w2 ⟨rfl, v', L', g1, g2, g3, g4, g5⟩
  have hsz := HA.out.size
  have KK : Keep S w w2 := (Keep.of HA.out).trans (g4.mono (fun b _ hb => h6 b hb)) (fun _ _ h => h)
  have bx : Blk w.heap.size 26 #[.int .i64 x.1, .int .i64 x.2.1, .string x.2.2] w2 := by
    refine blk_keep (blk_new w 26 #[.int .i64 x.1, .int .i64 x.2.1, .string x.2.2]) ?_ ?_ (S := FtP p v m)
    · exact (Keep.drew _ _).trans g4 (fun _ _ h => h)
    · intro hb
      have := H2.out.lt hb
      omega
  have bd : Blk d 170 #[.pointer (some ⟨p, 0, none⟩)] w2 := blk_keep (blk_on HB.out HA.out) g4 HF.out
  refine hK.out _ _ ⟨by rw [blk_cell bd]; rfl, by rw [blk_cell bx]; rfl, by rw [blk_cell bx]; rfl, by rw [blk_cell bx]; rfl⟩ (fun _ => ?_)
  have R : DcS (Up S w) d (n + 1) (setL (live L) s x) w2 := ⟨p, v', m, L', bd, g1, g2, by omega, .inl h5, fun b hb => by
    rcases g5 b hb with h | h
    · exact .inl (h6 b h)
    · exact .inr (by omega)⟩
  have RR := hid R
  have RK := hid KK
  clear hK K g1 g2 g4 g5 bx bd R KK
  try simp only [Act.put, List.setIfInBounds_toArray, List.set_cons_zero, List.set_cons_succ, List.getElem_toArray, List.getElem_cons_succ, List.getElem_cons_zero]
  refine tkk 10 ?_
  refine tkk 11 ?_
  refine wpAnyH_done (by kernel_rfl) ?_ _
  go_wp2_with fail
  go_ret
  exact ⟨rfl, RR.out, RK.out⟩

end Go.Proofs.YtemidicgipebjaaGreat

namespace Go.Proofs.YtemidicgipebjaaGreat
set_option linter.unusedSimpArgs false
set_option maxRecDepth 100000
open Go.RowKit

theorem tof_has {S : Nat → Prop} {t i : Nat} {L : List ByteArray} (w : World) (h : NmS S t L w) (s : ByteArray) (hs : s.size ≤ maxLen) (hi : atT L s = some i) :
    Calls Tryz.prog 97 #[.pointer (some ⟨t, 0, none⟩), .string s] w fun e w' => e = .returned (.int .i64 ((i + 1 : Nat) : Int)) ∧ w' = w := by
  have H := hid h
  obtain ⟨p, m, v, h1, h2, _⟩ := h
  obtain ⟨c1, c2⟩ := h2.cells
  have c0 : w.cell? ⟨t, 0, none⟩ = some (.pointer (some ⟨p, 0, none⟩)) := by rw [blk_cell h1]; rfl
  have HM := hid h2.map
  have hF : numF L s = some ((i + 1 : Nat) : Int) := by unfold numF; rw [hi]; rfl
  clear h1 h2 hi
  go_enter Tryz.func97, Tryz.ntmps97
  go_wp2_with fail
  refine (tmade_calls _ H.out).mono ?_
  rintro e1 w1 ⟨rfl, rfl⟩
  go_wp2_with (first | (at_lookup; refine gm_look underNt rfl _ _ rfl m _ _ s rfl HM.out rfl hs ?_; rw [hF]) | fail)
  go_ret
  exact ⟨rfl, rfl⟩

/-- behind the append and the store -/
theorem TwAt.more {p m g cap : Nat} {v : Value} {L : List ByteArray} {s : ByteArray} {w w3 : World} (h : TwAt p m v L w) (hk : Keep (FtT p m v) w w3) (hb3 : Blk p 156 #[.map (some m), v] w3) (hm3 : w3.heap[m]? = w.heap[m]?)
    (hgp : g ≠ p ∧ g ≠ m) (hown : w3.ownsRow 0 9 1 (.slice (some ⟨g, 0, none⟩) (L.length + 1) cap) (L.length + 1) (L.map Value.string ++ [.string s])) (hat : v.ownBlock = some g ∨ w.heap.size ≤ g) :
    let W := w3.setCell ⟨p, 1, none⟩ (.slice (some ⟨g, 0, none⟩) (L.length + 1) cap)
    Blk p 156 #[.map (some m), .slice (some ⟨g, 0, none⟩) (L.length + 1) cap] W ∧ W.ownsRow 0 9 1 (.slice (some ⟨g, 0, none⟩) (L.length + 1) cap) (L.length + 1) (L.map Value.string ++ [.string s]) ∧ MapN m (numF L) L.length W ∧ Keep (FtT p m v) w W ∧
      ∀ b, FtT p m (.slice (some ⟨g, 0, none⟩) (L.length + 1) cap) b → FtT p m v b ∨ w.heap.size ≤ b := by
  intro W
  have K3 : Keep (fun b => b = p) w3 W := Keep.set (S := fun b => b = p) rfl w3 1 _
  have hm3' : m < w3.heap.size := Nat.lt_of_lt_of_le (h.lt (b := m) (.inr (.inl rfl))) hk.size
  refine ⟨blk_set hb3 1 _, ?_, ?_, hk.trans K3 (fun b _ e => .inl e), ?_⟩
  · exact row_keep hown (fun k hk => by
      simp [Value.ownBlock] at hk
      subst hk
      obtain ⟨cur, hc⟩ := row_lt hown (g := g) rfl
      exact K3.block g (blk_lt hc) hgp.1)
  · exact mapN_keep (mapN_keep h.map hm3) (K3.block m hm3' h.ne.1)
  · rintro b (rfl | rfl | hb)
    · exact .inl (.inl rfl)
    · exact .inl (.inr (.inl rfl))
    · simp [Value.ownBlock] at hb
      subst hb
      rcases hat with h1 | h1
      · exact .inl (.inr (.inr h1))
      · exact .inr (by omega)
/-- the block of the table itself -/
theorem TwAt.far {p m d : Nat} {v : Value} {L : List ByteArray} {cs : Array Value} {T : TypeId} {w : World} (h1 : Blk d T cs w) (h : TwAt p m v L w) (t1 : T ≠ 156) (t2 : T ≠ 9) : ¬ FtT p m v d := by
  have hd : w.heap[d]? = _ := h1
  rintro (e | e | e)
  · have hb : w.heap[p]? = _ := h.blk
    rw [← e, hd] at hb
    injection hb with hb; injection hb with _ hb
    exact t1 hb
  · obtain ⟨es, clock, hm⟩ := mapN_block h.map
    rw [← e, hd] at hm; cases hm
  · obtain ⟨cur, hc⟩ := row_lt h.row e
    have hb : w.heap[d]? = _ := hc
    rw [hd] at hb
    injection hb with hb; injection hb with _ hb
    exact t2 hb

/-- behind the map's put -/
theorem NmS.put {S : Nat → Prop} {t p m g cap : Nat} {v : Value} {L : List ByteArray} {s : ByteArray} {w w4 w5 : World} (h : TwAt p m v L w) (hi : atT L s = none) (h3 : S t) (h4 : ∀ b, FtT p m v b → S b)
    (bt : Blk t 158 #[.pointer (some ⟨p, 0, none⟩)] w4) (bp : Blk p 156 #[.map (some m), .slice (some ⟨g, 0, none⟩) (L.length + 1) cap] w4)
    (rw4 : w4.ownsRow 0 9 1 (.slice (some ⟨g, 0, none⟩) (L.length + 1) cap) (L.length + 1) (L.map Value.string ++ [.string s])) (k4 : Keep (FtT p m v) w w4)
    (hf : ∀ b, FtT p m (.slice (some ⟨g, 0, none⟩) (L.length + 1) cap) b → FtT p m v b ∨ w.heap.size ≤ b) (hfar : ¬ FtT p m v t) (hgp : g ≠ p ∧ g ≠ m)
    (hM : MapN m (putF (numF L) s ((L.length + 1 : Nat) : Int)) (if (numF L s).isSome then L.length else L.length + 1) w5) (k5 : Keep (fun b => b = m) w4 w5) :
    NmS (Up S w) t (L ++ [s]) w5 ∧ Keep S w w5 ∧ Blk t 158 #[.pointer (some ⟨p, 0, none⟩)] w5 ∧ Blk p 156 #[.map (some m), .slice (some ⟨g, 0, none⟩) (L.length + 1) cap] w5 := by
  have htm : t ≠ m := fun e => hfar (.inr (.inl e))
  have bt5 := blk_keep bt k5 htm
  have bp5 := blk_keep bp k5 (fun e => h.ne.1 e.symm)
  have hl : (L ++ [s]).length = L.length + 1 := by simp
  refine ⟨⟨p, m, _, bt5, ⟨bp5, ?_, ?_⟩, .inl h3, fun b hb => ?_⟩, (k4.mono (fun b _ hb => h4 b hb)).trans k5 (fun b _ e => by subst e; exact h4 _ (.inr (.inl rfl))), bt5, bp5⟩
  · rw [hl, List.map_append]
    exact row_keep rw4 (fun k hk => by
      simp [Value.ownBlock] at hk
      subst hk
      obtain ⟨cur, hc⟩ := row_lt rw4 (g := g) rfl
      exact k5.block g (blk_lt hc) hgp.2)
  · rw [numF_some, hi] at hM
    rw [hl]
    exact mapN_ext hM (numF_snoc hi)
  · rcases hf b hb with h | h
    · exact .inl (h4 b h)
    · exact .inr h

set_option maxHeartbeats 2000000 in
theorem tof_new {S : Nat → Prop} {t : Nat} {L : List ByteArray} (w : World) (h : NmS S t L w) (s : ByteArray) (hs : s.size ≤ maxLen) (hi : atT L s = none) (hl : L.length ≤ 1000000) :
    Calls Tryz.prog 97 #[.pointer (some ⟨t, 0, none⟩), .string s] w fun e w' => e = .returned (.int .i64 ((L.length + 1 : Nat) : Int)) ∧ NmS (Up S w) t (L ++ [s]) w' ∧ Keep S w w' := by
  have H := hid h
  obtain ⟨i0, hi0, hz0, hz1, hz2⟩ := infoTx
  obtain ⟨p, m, v, h1, h2, h3, h4⟩ := h
  obtain ⟨ao, cap, rfl⟩ := row_shape h2.row
  obtain ⟨d1, d2⟩ := h2.cells
  have d0 : w.cell? ⟨t, 0, none⟩ = some (.pointer (some ⟨p, 0, none⟩)) := by rw [blk_cell h1]; rfl
  have HM := hid h2.map
  have HT := hid h2
  have HB := hid h1
  have hF : numF L s = none := by unfold numF; rw [hi]; rfl
  have HI := hid hi
  have hp := h2.lt (b := p) (.inl rfl)
  have ht := blk_lt h1
  have hFar := hid (TwAt.far h1 h2 (by decide) (by decide))
  have htp : t ≠ p := fun e => hFar.out (.inl e)
  have A := ((Below.refl w.heap.size w).drew.alloc (Nat.le_refl _) (Obj.cells #[.string s] 9))
  have HA := hid A
  have RW := hid (row_keep (c := (w.drew.alloc (Obj.cells #[.string s] 9))) h2.row (fun g hg => A.block g (h2.lt (.inr (.inr hg)))))
  have NW := hid (World.news_of_block (w := (w.drew.alloc (Obj.cells #[.string s] 9))) (show (w.drew.alloc (Obj.cells #[.string s] 9)).heap[w.heap.size]? = _ from heap_alloc_new w.drew (Obj.cells #[.string s] 9)))
  clear h1 h2 hi A
  go_enter Tryz.func97, Tryz.ntmps97
  go_wp2_with fail
  refine (tmade_calls _ H.out).mono ?_
  rintro e1 w1 ⟨rfl, rfl⟩
  go_wp2_with (first | (at_lookup; refine gm_look underNt rfl _ _ rfl m _ _ s rfl HM.out rfl hs ?_; rw [hF]) | fail)
  refine wp_region_held_drew (S := fun a => a.cell? ⟨t, 0, none⟩ = some (.pointer (some ⟨p, 0, none⟩))) (by kernel_rfl) d0 (fun hHeld => ?_)
  refine tkk 0 ?_
  refine tkk 1 ?_
  refine tkk 2 ?_
  refine tkk 3 ?_
  refine tkk 4 ?_
  refine tkk 5 ?_
  refine tkk 6 ?_
  refine tkk 7 ?_
  refine tkk 8 ?_
  refine tkk 9 ?_
  refine tkk 11 ?_
  refine wpAnyH_ready (rs := [10, 12]) (by kernel_rfl) (by simp) ?_
  refine AllReadyH.cons rfl (fun K hK => ?_) (AllReadyH.cons rfl (fun K hK => ?_) AllReadyH.nil)
  go_simp
  refine hK.out _ _ d0 (fun _ => ?_)
  clear hK K
  refine rdy 12 (fun K hK => ?_)
  go_simp
  refine hK.out _ _ (by go_simp) (fun _ => ?_)
  clear hK K
  rotate_left 1
  go_simp
  refine hK.out _ _ (by go_simp) (fun _ => ?_)
  clear hK K
  refine rdy 10 (fun K hK => ?_)
  go_simp
  refine hK.out _ _ (by go_simp) (fun _ => ?_)
  clear hK K
  rotate_left 1
  all_goals
    refine rdy 13 (fun K hK => ?_)
    refine step_append_lies _ rfl _ _ 62 rfl 0 9 i0 _ 1 16 underTx hi0 hz0 hz1 hz2 rfl (by decide) (.slice ao L.length cap) L.length (L.map Value.string) rfl RW.out ⟨w1.heap.size, 0, none⟩ 1 1 [.string s] rfl rfl NW.out (by intro u hu; simp at hu; subst hu; rfl) (by decide) (by unfold maxLen; omega) (by omega) (Nat.zero_le _) (w1.heap.size + 1) (by simp) ?_
    intro g cp w3 hown hgrow hat hlt
    have k3 : Keep (FtT p m (.slice ao L.length cap)) w1 w3 := (Keep.of HA.out).trans (Keep.grown hgrow (fun k hk => .inr (.inr hk))) (fun _ _ e => e)
    have fr : ∀ b, b < w1.heap.size → (Value.slice ao L.length cap).ownBlock ≠ some b → w3.heap[b]? = w1.heap[b]? := fun b hb hne =>
      ((Keep.of (S := fun c => (Value.slice ao L.length cap).ownBlock = some c) HA.out).trans (Keep.grown hgrow (fun k hk => hk)) (fun _ _ e => e)).block b hb hne
    have hat2 : (Value.slice ao L.length cap).ownBlock = some g ∨ w1.heap.size ≤ g := by
      rcases hat with h | h
      · exact .inl h
      · exact .inr (by have := HA.out.size; omega)
    have hb3 : Blk p 156 #[.map (some m), .slice ao L.length cap] w3 := (fr p hp (fun e => (HT.out.ne.2 p e).1 rfl)).trans HT.out.blk
    have hgp : g ≠ p ∧ g ≠ m := by
      rcases hat2 with h | h
      · exact HT.out.ne.2 g h
      · have := HT.out.lt (b := m) (.inr (.inl rfl))
        omega
    have bt3 : Blk t 158 #[.pointer (some ⟨p, 0, none⟩)] w3 := blk_keep HB.out k3 hFar.out
    have W := hid (HT.out.more (s := s) k3 hb3 (fr m (HT.out.lt (.inr (.inl rfl))) (fun e => (HT.out.ne.2 m e).2 rfl)) hgp hown hat2)
    have BT := hid bt3
    have q0 : w3.cell? ⟨t, 0, none⟩ = some (.pointer (some ⟨p, 0, none⟩)) := by rw [blk_cell bt3]; rfl
    have q1 : w3.cell? ⟨p, 1, none⟩ = some (.slice ao L.length cap) := by rw [blk_cell hb3]; rfl
    have q2 : w3.cell? ⟨p, 0, none⟩ = some (.map (some m)) := by rw [blk_cell hb3]; rfl
    have q3 : w3.frozen? ⟨p, 1, none⟩ = false := blk_free hb3 1
    refine hK.out _ _ q0 (fun _ => ?_)
    clear hK K hown hgrow k3 fr hb3 bt3 hat hat2
    simp only [Act.put, List.setIfInBounds_toArray, List.set_cons_zero, List.set_cons_succ, List.getElem_toArray, List.getElem_cons_succ, List.getElem_cons_zero]
    refine tkk 14 ?_
    refine tkk 15 ?_
    refine rdy 16 (fun K hK => ?_)
    go_simp
    obtain ⟨x1, x2, x3, x4, x5⟩ := W.out
    have bt4 : Blk t 158 #[.pointer (some ⟨p, 0, none⟩)] (w3.setCell ⟨p, 1, none⟩ (.slice (some ⟨g, 0, none⟩) (L.length + 1) cp)) := blk_keep BT.out (Keep.set (S := fun b => b = p) rfl w3 1 _) htp
    have X1 := hid x1
    have X2 := hid x2
    have X3 := hid x3
    have X4 := hid x4
    have X5 := hid x5
    have X6 := hid bt4
    have r0 : (w3.setCell ⟨p, 1, none⟩ (.slice (some ⟨g, 0, none⟩) (L.length + 1) cp)).cell? ⟨t, 0, none⟩ = some (.pointer (some ⟨p, 0, none⟩)) := by rw [blk_cell bt4]; rfl
    have r1 : (w3.setCell ⟨p, 1, none⟩ (.slice (some ⟨g, 0, none⟩) (L.length + 1) cp)).cell? ⟨p, 1, none⟩ = some (.slice (some ⟨g, 0, none⟩) (L.length + 1) cp) := by rw [blk_cell x1]; rfl
    have r2 : (w3.setCell ⟨p, 1, none⟩ (.slice (some ⟨g, 0, none⟩) (L.length + 1) cp)).cell? ⟨p, 0, none⟩ = some (.map (some m)) := by rw [blk_cell x1]; rfl
    clear x1 x2 x3 x4 x5 bt4 W BT q0 q1 q2 q3
    refine hK.out _ _ r0 (fun _ => ?_)
    clear hK K hHeld
    refine wpAnyH_done (by kernel_rfl) ?_ _
    generalize w3.setCell ⟨p, 1, none⟩ (.slice (some ⟨g, 0, none⟩) (L.length + 1) cp) = w4 at *
    go_wp2_with fail
    refine wp_region_held_drew (S := fun a => a.cell? ⟨t, 0, none⟩ = some (.pointer (some ⟨p, 0, none⟩)) ∧ a.cell? ⟨p, 0, none⟩ = some (.map (some m)) ∧ a.cell? ⟨p, 1, none⟩ = some (.slice (some ⟨g, 0, none⟩) (L.length + 1) cp)) (by kernel_rfl) ⟨r0, r2, r1⟩ (fun hHeld => ?_)
    refine tkk 0 ?_
    refine tkk 1 ?_
    refine tkk 2 ?_
    refine tkk 3 ?_
    refine tkk 4 ?_
    refine tkk 5 ?_
    refine tkk 6 ?_
    refine tkk 7 ?_
    refine tkk 8 ?_
    refine tkk 9 ?_
    refine tkk 10 ?_
    refine tkk 11 ?_
    refine tkk 12 ?_
    refine tkk 13 ?_
    refine tkk 14 ?_
    refine tkk 15 ?_
    refine rdy 16 (fun K hK => ?_)
    refine gm_step underNt rfl _ _ _ rfl m _ _ s ((L.length + 1 : Nat) : Int) rfl (mapN_keep X3.out rfl) (by unfold maxLen; omega) rfl hs rfl (WalkArith.wf_i64 (by omega)) ?_
    intro w5 hM5 g5
    have k5 : Keep (fun b => b = m) w4 w5 := (Keep.drew _ w4).trans (Keep.grown g5 (fun k hk => (Option.some.inj hk).symm)) (fun _ _ e => e)
    have RR := hid (NmS.put HT.out HI.out h3 h4 X6.out X1.out X2.out X4.out X5.out hFar.out hgp hM5 k5)
    have y0 : w5.cell? ⟨t, 0, none⟩ = some (.pointer (some ⟨p, 0, none⟩)) := by rw [blk_cell RR.out.2.2.1]; rfl
    have y1 : w5.cell? ⟨p, 0, none⟩ = some (.map (some m)) := by rw [blk_cell RR.out.2.2.2]; rfl
    have y2 : w5.cell? ⟨p, 1, none⟩ = some (.slice (some ⟨g, 0, none⟩) (L.length + 1) cp) := by rw [blk_cell RR.out.2.2.2]; rfl
    refine hK.out _ _ ⟨y0, y1, y2⟩ (fun _ => ?_)
    clear hK K hHeld hM5 g5 k5 X1 X2 X3 X4 X5 X6
    refine wpAnyH_done (by kernel_rfl) ?_ _
    go_wp2_with fail
    go_ret
    exact ⟨by simp, RR.out.1, RR.out.2.1⟩
theorem tof_calls {S : Nat → Prop} {t : Nat} {L : List ByteArray} (w : World) (h : NmS S t L w) (s : ByteArray) (hs : s.size ≤ maxLen) (hl : L.length ≤ 1000000) :
    Calls Tryz.prog 97 #[.pointer (some ⟨t, 0, none⟩), .string s] w fun e w' => e = .returned (.int .i64 (numT L s : Int)) ∧ NmS (Up S w) t (ofT L s) w' ∧ Keep S w w' := by
  cases hi : atT L s with
  | some i =>
    rw [show numT L s = i + 1 from by unfold numT; rw [hi], show ofT L s = L from by unfold ofT; rw [hi]; rfl]
    exact (tof_has w h s hs hi).mono fun e w' ⟨h1, h2⟩ => by subst h2; exact ⟨h1, h.mono (fun b _ hb => .inl hb), Keep.refl _ _⟩
  | none =>
    rw [show numT L s = L.length + 1 from by unfold numT; rw [hi], show ofT L s = L ++ [s] from by unfold ofT; rw [hi]; rfl]
    exact tof_new w h s hs hi hl

end Go.Proofs.YtemidicgipebjaaGreat
