/- The document's making of shapes. -/
import Derived.Test.YtemidicgipebjaaGreatJoint2
import Derived.Test.YtemidicgipebjaaGreatJoint15
namespace Go.Proofs.YtemidicgipebjaaGreat
set_option linter.unusedSimpArgs false
open Go.RowKit

theorem elSh : Elem 121 162 2 32 := elem_of (z0 := .agg #[.int .i64 0, .slice none 0 0]) (by kernel_rfl) (by kernel_rfl) rfl
/-- rows of numbers stay -/
def KeepI (a c : World) : Prop := ∀ g cs, Blk g 3 cs a → Blk g 3 cs c
theorem keepI_on {a c : World} (k : Below a.heap.size a c) : KeepI a c := fun _ _ h => blk_on h k
theorem KeepI.trans {a b c : World} (h : KeepI a b) (k : KeepI b c) : KeepI a c := fun g cs q => k g cs (h g cs q)
/-- behind the append and the store -/
theorem RfS.more {S : Nat → Prop} {r M g cp : Nat} {L : List Sh} {s : Sh} {nv v : Value} {ps : List (Sh × Value)} {w w1 w3 : World} (hb : Blk r 123 #[v, .int .i64 (M : Int)] w1) (hr : w1.ownsRow 0 162 2 v L.length (rowC ps)) (hp : ps.map (·.1) = L) (hn : ∀ q ∈ ps, namesOf q.2 q.1.2 w1) (hs : S r) (hv : ∀ g, v.ownBlock = some g → S g) (hq : ∀ q ∈ ps, ∀ g, q.2.ownBlock = some g → S g)
    (hnv : namesOf nv s.2 w1) (hnS : ∀ g, nv.ownBlock = some g → Up S w g) (k1 : Below w.heap.size w w1)
    (hown : w3.ownsRow 0 162 2 (.slice (some ⟨g, 0, none⟩) (L.length + 1) cp) (L.length + 1) (rowC ps ++ [.int .i64 s.1, nv])) (hgrow : w1.grownBy w3 v.ownBlock) (hat : v.ownBlock = some g ∨ w1.heap.size ≤ g) :
    Blk r 123 #[v, .int .i64 (M : Int)] w3 ∧ RfS (Up S w) r M (L ++ [s]) (w3.setCell ⟨r, 0, none⟩ (.slice (some ⟨g, 0, none⟩) (L.length + 1) cp)) ∧ Keep S w (w3.setCell ⟨r, 0, none⟩ (.slice (some ⟨g, 0, none⟩) (L.length + 1) cp)) ∧
      Blk r 123 #[.slice (some ⟨g, 0, none⟩) (L.length + 1) cp, .int .i64 (M : Int)] (w3.setCell ⟨r, 0, none⟩ (.slice (some ⟨g, 0, none⟩) (L.length + 1) cp)) ∧ KeepI w (w3.setCell ⟨r, 0, none⟩ (.slice (some ⟨g, 0, none⟩) (L.length + 1) cp)) := by
  have hne : v.ownBlock ≠ some r := fun e => by
    obtain ⟨cur, hc⟩ := row_lt hr e
    exact absurd (blk_type hc hb) (by decide)
  have hrl := blk_lt hb
  have b3 : Blk r 123 #[v, .int .i64 (M : Int)] w3 := (hgrow.block r hrl (fun e => hne e.symm)).trans hb
  have K3 := Keep.set (S := fun b => b = r) rfl w3 0 (.slice (some ⟨g, 0, none⟩) (L.length + 1) cp)
  have hgr : g ≠ r := fun e => by
    rcases hat with h | h
    · exact hne (e ▸ h)
    · omega
  have b4 := blk_set b3 0 (.slice (some ⟨g, 0, none⟩) (L.length + 1) cp)
  have z1 := k1.size
  have nk : ∀ (u : Value) (ns : List Int), namesOf u ns w1 → namesOf u ns (w3.setCell ⟨r, 0, none⟩ (.slice (some ⟨g, 0, none⟩) (L.length + 1) cp)) := fun u ns hu => by
    refine ⟨row_keep hu.1 (fun k hk => ?_), hu.2⟩
    obtain ⟨cur, hc⟩ := row_lt hu.1 hk
    have hkl := blk_lt hc
    rw [K3.block k (Nat.lt_of_lt_of_le hkl hgrow.size) (fun e => absurd (blk_type (e ▸ hc) hb) (by decide))]
    refine hgrow.block k hkl (fun e => ?_)
    obtain ⟨cur', hc'⟩ := row_lt hr e.symm
    exact absurd (blk_type hc hc') (by decide)
  refine ⟨b3, ⟨_, ps ++ [(s, nv)], b4, ?_, ?_, ?_, .inl hs, ?_, ?_⟩, ?_, b4, ?_⟩
  · rw [List.length_append, rowC_snoc]
    exact row_keep hown (fun k hk => by
      simp [Value.ownBlock] at hk
      subst hk
      obtain ⟨cur, hc⟩ := row_lt hown (g := g) rfl
      exact K3.block g (blk_lt hc) hgr)
  · simp [hp]
  · intro q hq'
    rcases List.mem_append.1 hq' with h | h
    · exact nk _ _ (hn q h)
    · simp at h
      subst h
      exact nk _ _ hnv
  · intro k hk
    simp [Value.ownBlock] at hk
    subst hk
    rcases hat with h | h
    · exact .inl (hv g h)
    · exact .inr (by omega)
  · intro q hq' k hk
    rcases List.mem_append.1 hq' with h | h
    · exact .inl (hq q h k hk)
    · simp at h
      subst h
      exact hnS k hk
  · refine ((Keep.of (S := S) k1).trans (Keep.grown hgrow (fun k hk => hv k hk)) (fun _ _ e => e)).trans K3 (fun b _ e => by rw [e]; exact hs)
  · refine (keepI_on k1).trans (fun k cs hc => ?_)
    have hkl := blk_lt hc
    refine (K3.block k (Nat.lt_of_lt_of_le hkl hgrow.size) (fun e => absurd (blk_type (e ▸ hc) hb) (by decide))).trans ((hgrow.block k hkl (fun e => ?_)).trans hc)
    obtain ⟨cur', hc'⟩ := row_lt hr e.symm
    exact absurd (blk_type hc hc') (by decide)
set_option maxRecDepth 100000 in
set_option maxHeartbeats 4000000 in
theorem srof_calls {S : Nat → Prop} {r M : Nat} {L : List Sh} {no : Option Addr} {nc : Nat} {ns : List Int} (w : World) (h : RfS S r M L w) (wf : WfS M L) (p : Int) (hn : namesOf (.slice no ns.length nc) ns w) (hnS : ∀ g, (Value.slice no ns.length nc).ownBlock = some g → Up S w g) (hnl : ns.length ≤ 100) :
    Calls Tryz.prog 104 #[.pointer (some ⟨r, 0, none⟩), .agg #[.int .i64 p, .slice no ns.length nc]] w fun e w' => e = .returned (.int .i64 (ofN M L (p, ns) : Int)) ∧ RfS (Up S w) r M (ofL M L (p, ns)) w' ∧ Keep S w w' ∧ KeepI w w' := by
  have b0 := (Below.refl _ w).alloc (Nat.le_refl _) (.cells #[.int .i64 p, .slice no ns.length nc] 162)
  have bk := blk_new w 162 #[.int .i64 p, .slice no ns.length nc]
  have B0 := hid b0
  have BK := hid bk
  have H := hid h
  have HN := hid hn
  have HW := hid wf
  have hl150 : L.length ≤ 150 := by have h1 := wf.len; have h2 := wf.most; omega
  clear h hn wf b0 bk
  generalize hw1 : w.alloc (.cells #[.int .i64 p, .slice no ns.length nc] 162) = w1 at *
  go_enter Tryz.func104, Tryz.ntmps104
  go_wp2_with fail
  go_loopw [5] (fun q wr => ∃ k : Nat, k ≤ L.length ∧ q = .int .i64 k ∧ Hid (∀ i : Nat, i < k → L[i]? ≠ some (p, ns)) ∧ Hid (Below w1.heap.size w1 wr)) (fun q _ => L.length - (intOf q).toNat)
  case atStart => exact ⟨0, Nat.zero_le _, rfl, hid (fun i hi => absurd hi (Nat.not_lt_zero _)), hid (Below.refl _ _)⟩
  case round =>
    obtain ⟨k, hk, rfl, hA, hB⟩ := hrel
    have hR := hid (H.out.on (below_on B0.out hB.out))
    have hrl := hid hR.out.lt
    have bx := blk_on BK.out hB.out
    have x0 : wr.cell? ⟨w.heap.size, 0, none⟩ = some (.int .i64 p) := by rw [blk_cell bx]; rfl
    have x1 : wr.cell? ⟨w.heap.size, 1, none⟩ = some (.slice no ns.length nc) := by rw [blk_cell bx]; rfl
    have hxl := blk_lt bx
    have BX := hid bx
    clear bx
    by_cases hkl : k < L.length
    · obtain ⟨⟨p2, ns2⟩, hs⟩ := ex_get hkl
      obtain ⟨g, cap, no2, nc2, c0, hgl, c1, c2, c3, _⟩ := hR.out.at' hs
      dsimp only at c1 c2 c3
      have hfew := HW.out.few k _ hs
      dsimp only at hfew
      by_cases hpp : p2 = p
      · subst hpp
        have HSm := hid (rsame_calls wr.drew (intsAt_on (intsAt_row c3.1) (Below.refl _ wr).drew) (intsAt_on (intsAt_row (HN.out.1)) (below_on B0.out hB.out).drew) (by omega))
        have HS := hid hs
        have ST := hid (show ∀ a, Below wr.heap.size wr a → a.cell? ⟨r, 0, none⟩ = some (.slice (some ⟨g, 0, none⟩) L.length cap) ∧ a.cell? ⟨g, k * 2, none⟩ = some (.int .i64 p2) ∧ a.cell? ⟨g, k * 2 + 1, none⟩ = some (.slice no2 ns2.length nc2) ∧ a.cell? ⟨w.heap.size, 0, none⟩ = some (.int .i64 p2) ∧ a.cell? ⟨w.heap.size, 1, none⟩ = some (.slice no ns.length nc) from fun a ka => ⟨(ka.cell (p := ⟨r, 0, none⟩) hrl.out).trans c0, (ka.cell (p := ⟨g, k * 2, none⟩) hgl).trans c1, (ka.cell (p := ⟨g, k * 2 + 1, none⟩) hgl).trans c2, (ka.cell (p := ⟨w.heap.size, 0, none⟩) hxl).trans x0, (ka.cell (p := ⟨w.heap.size, 1, none⟩) hxl).trans x1⟩)
        clear c3 hs
        by_cases hnn : ns2 = ns
        · subst hnn
          rw [decide_eq_true rfl] at HSm
          have HO := hid (show ofN M L (p2, ns2) = k + 1 ∧ ofL M L (p2, ns2) = L by unfold ofN ofL; rw [HW.out.at' HS.out]; exact ⟨rfl, rfl⟩)
          clear hA
          go_wp2_with fail
          refine wp_region_held_drew (S := fun a => a.cell? ⟨r, 0, none⟩ = some (.slice (some ⟨g, 0, none⟩) L.length cap) ∧ a.cell? ⟨g, k * 2, none⟩ = some (.int .i64 p2) ∧ a.cell? ⟨g, k * 2 + 1, none⟩ = some (.slice no2 ns2.length nc2) ∧ a.cell? ⟨w.heap.size, 0, none⟩ = some (.int .i64 p2) ∧ a.cell? ⟨w.heap.size, 1, none⟩ = some (.slice no ns2.length nc)) (by kernel_rfl) ⟨c0, c1, c2, x0, x1⟩ (fun hHeld => ?_)
          refine tkk 0 ?_
          refine tkk 1 ?_
          refine tkk 2 ?_
          refine tkk 3 ?_
          refine tkk 4 ?_
          refine tkk 5 ?_
          refine tkk 6 ?_
          refine tkk 7 ?_
          refine tkk 8 ?_
          refine tkk 9 ?_
          refine tkk 10 ?_
          refine tkk 11 ?_
          refine tkk 12 ?_
          refine tkk 13 ?_
          refine tkk 14 ?_
          refine tkk 15 ?_
          refine tkk 16 ?_
          refine tkk 17 ?_
          refine tkk 18 ?_
          refine tkk 19 ?_
          refine tkk 20 ?_
          refine tkk 21 ?_
          refine rdy 22 (fun K hK => ?_)
          go_simp
          refine HSm.out.mono ?_
          rintro e2 w2 ⟨rfl, b2⟩
          have B2 := hid ((Below.refl _ wr).drew.trans b2)
          go_simp
          refine hK.out _ _ (ST.out _ B2.out) (fun _ => ?_)
          clear hK K b2 hHeld
          refine tkk 23 ?_
          refine wpAnyH_done (by kernel_rfl) ?_ _
          go_wp2_with fail
          go_ret
          have BB := below_on B0.out (below_on hB.out B2.out)
          refine ⟨by rw [HO.out.1]; simp, ?_, Keep.of BB, keepI_on BB⟩
          rw [HO.out.2]
          exact (H.out.on BB).mono (fun b _ hb => .inl hb)
        · rw [decide_eq_false hnn] at HSm
          have HA := hid (show ∀ i : Nat, i < k + 1 → L[i]? ≠ some (p2, ns) from fun i hi e => by
            rcases Nat.lt_or_ge i k with h1 | h1
            · exact hA.out i h1 e
            · have : i = k := by omega
              subst this
              rw [HS.out] at e
              injection e with e
              injection e with _ e
              exact hnn e)
          clear hA hnn
          go_wp2_with fail
          refine wp_region_held_drew (S := fun a => a.cell? ⟨r, 0, none⟩ = some (.slice (some ⟨g, 0, none⟩) L.length cap) ∧ a.cell? ⟨g, k * 2, none⟩ = some (.int .i64 p2) ∧ a.cell? ⟨g, k * 2 + 1, none⟩ = some (.slice no2 ns2.length nc2) ∧ a.cell? ⟨w.heap.size, 0, none⟩ = some (.int .i64 p2) ∧ a.cell? ⟨w.heap.size, 1, none⟩ = some (.slice no ns.length nc)) (by kernel_rfl) ⟨c0, c1, c2, x0, x1⟩ (fun hHeld => ?_)
          refine tkk 0 ?_
          refine tkk 1 ?_
          refine tkk 2 ?_
          refine tkk 3 ?_
          refine tkk 4 ?_
          refine tkk 5 ?_
          refine tkk 6 ?_
          refine tkk 7 ?_
          refine tkk 8 ?_
          refine tkk 9 ?_
          refine tkk 10 ?_
          refine tkk 11 ?_
          refine tkk 12 ?_
          refine tkk 13 ?_
          refine tkk 14 ?_
          refine tkk 15 ?_
          refine tkk 16 ?_
          refine tkk 17 ?_
          refine tkk 18 ?_
          refine tkk 19 ?_
          refine tkk 20 ?_
          refine tkk 21 ?_
          refine rdy 22 (fun K hK => ?_)
          go_simp
          refine HSm.out.mono ?_
          rintro e2 w2 ⟨rfl, b2⟩
          have B2 := hid ((Below.refl _ wr).drew.trans b2)
          go_simp
          refine hK.out _ _ (ST.out _ B2.out) (fun _ => ?_)
          clear hK K b2 hHeld
          refine tkk 23 ?_
          refine wpAnyH_done (by kernel_rfl) ?_ _
          go_wp2_with fail
          exact ⟨⟨k + 1, by omega, by simp, HA, hid (below_on hB.out B2.out)⟩, by simp [intOf]; omega⟩
      · have dpp : (p2 == p) = false := by simpa using hpp
        have HA := hid (show ∀ i : Nat, i < k + 1 → L[i]? ≠ some (p, ns) from fun i hi e => by
          rcases Nat.lt_or_ge i k with h1 | h1
          · exact hA.out i h1 e
          · have : i = k := by omega
            subst this
            rw [hs] at e
            injection e with e
            injection e with e _
            exact hpp e)
        clear hA hpp hs c3
        go_wp2_with fail
        refine wp_region_held_drew (S := fun a => a.cell? ⟨r, 0, none⟩ = some (.slice (some ⟨g, 0, none⟩) L.length cap) ∧ a.cell? ⟨g, k * 2, none⟩ = some (.int .i64 p2) ∧ a.cell? ⟨g, k * 2 + 1, none⟩ = some (.slice no2 ns2.length nc2) ∧ a.cell? ⟨w.heap.size, 0, none⟩ = some (.int .i64 p) ∧ a.cell? ⟨w.heap.size, 1, none⟩ = some (.slice no ns.length nc)) (by kernel_rfl) ⟨c0, c1, c2, x0, x1⟩ (fun hHeld => ?_)
        refine tkk 0 ?_
        refine tkk 1 ?_
        refine tkk 2 ?_
        refine tkk 3 ?_
        refine tkk 4 ?_
        refine tkk 5 ?_
        refine tkk 6 ?_
        refine tkk 7 ?_
        refine tkk 8 ?_
        refine tkk 9 ?_
        refine tkk 10 ?_
        refine tkk 11 ?_
        refine tks 12 ?_
        refine tks 13 ?_
        refine tks 14 ?_
        refine tks 15 ?_
        refine tks 16 ?_
        refine tks 17 ?_
        refine tks 18 ?_
        refine tks 19 ?_
        refine tks 20 ?_
        refine tks 21 ?_
        refine tks 22 ?_
        refine tkk 23 ?_
        refine wpAnyH_done (by kernel_rfl) ?_ _
        go_wp2_with fail
        exact ⟨⟨k + 1, by omega, by simp, HA, hid hB.out.drew⟩, by simp [intOf]; omega⟩
    · have hke : k = L.length := by omega
      subst hke
      have hat : atS L (p, ns) = none := atS_none (fun i e => hA.out i (lt_of_get e) e)
      obtain ⟨v, ps, g1, g2, h3, g4, h5, h6, h7⟩ := H.out
      have KB := below_on B0.out hB.out
      have h1 := blk_on g1 KB
      have h2 := row_keep (c := wr) g2 (fun gg hg => KB.block gg (row_new g2 hg).2)
      have h4 : ∀ q ∈ ps, namesOf q.2 q.1.2 wr := fun q hq => ⟨row_keep (g4 q hq).1 (fun gg hg => KB.block gg (row_new (g4 q hq).1 hg).2), (g4 q hq).2⟩
      have hne2 : v.ownBlock ≠ some w.heap.size := fun e => by have := (row_new g2 e).2; omega
      have hrx : r ≠ w.heap.size := by have := blk_lt g1; omega
      clear g1 g2 g4 KB
      obtain ⟨ao, cap, rfl⟩ := row_shape h2
      have c0 : wr.cell? ⟨r, 0, none⟩ = some (.slice ao L.length cap) := by rw [blk_cell h1]; rfl
      have c1 : wr.cell? ⟨r, 1, none⟩ = some (.int .i64 (M : Int)) := by rw [blk_cell h1]; rfl
      by_cases hfull : M ≤ L.length
      · have HO := hid (show ofN M L (p, ns) = 0 ∧ ofL M L (p, ns) = L by unfold ofN ofL; rw [hat]; simp [hfull])
        have d1 : decide ((M : Int) ≤ (L.length : Int)) = true := decide_eq_true (by omega)
        clear h1 h2 h3 h4 h5 h6 h7 hA hat hne2
        go_wp2_with fail
        refine wp_region_held_drew (S := fun a => a.cell? ⟨r, 0, none⟩ = some (.slice ao L.length cap) ∧ a.cell? ⟨r, 1, none⟩ = some (.int .i64 (M : Int))) (by kernel_rfl) ⟨c0, c1⟩ (fun hHeld => ?_)
        refine tkk 0 ?_
        refine tkk 1 ?_
        refine tkk 2 ?_
        refine tkk 3 ?_
        refine tkk 4 ?_
        refine tkk 5 ?_
        refine tkk 6 ?_
        refine tkk 7 ?_
        refine tkk 8 ?_
        refine tkk 9 ?_
        refine wpAnyH_done (by kernel_rfl) ?_ _
        go_wp2_with fail
        go_ret
        have BB := below_on B0.out (hB.out.drew)
        refine ⟨by rw [HO.out.1]; rfl, ?_, Keep.of BB, keepI_on BB⟩
        rw [HO.out.2]
        exact (H.out.on BB).mono (fun b _ hb => .inl hb)
      · have HO := hid (show ofN M L (p, ns) = L.length + 1 ∧ ofL M L (p, ns) = L ++ [(p, ns)] by unfold ofN ofL; rw [hat]; simp [hfull])
        have d1 : decide ((M : Int) ≤ (L.length : Int)) = false := decide_eq_false (by omega)
        have D := (Below.refl wr.heap.size wr).drew
        have DD := D.drew
        have MO := hid (show ∀ g cp w3, w3.ownsRow 0 162 2 (.slice (some ⟨g, 0, none⟩) (L.length + 1) cp) (L.length + 1) (rowC ps ++ [.int .i64 p, .slice no ns.length nc]) → wr.drew.grownBy w3 (Value.slice ao L.length cap).ownBlock → ((Value.slice ao L.length cap).ownBlock = some g ∨ wr.drew.heap.size ≤ g) → _ from fun g cp w3 q1 q2 q3 =>
          RfS.more (S := S) (s := (p, ns)) (w := w) (blk_on h1 D) (row_keep (c := wr.drew) h2 (fun _ _ => rfl)) h3 (fun q hq => ⟨row_keep (h4 q hq).1 (fun _ _ => rfl), (h4 q hq).2⟩) h5 h6 h7 ⟨row_keep HN.out.1 (fun gg hgg => (below_on B0.out hB.out.drew).block gg (row_new HN.out.1 hgg).2), HN.out.2⟩ hnS (below_on B0.out hB.out.drew) q1 q2 q3)
        have RW := hid (row_keep (c := wr.drew) h2 (fun _ _ => rfl))
        have e0 : wr.drew.cell? ⟨r, 0, none⟩ = some (.slice ao L.length cap) := c0
        have y0 : wr.drew.cell? ⟨w.heap.size, 0, none⟩ = some (.int .i64 p) := x0
        have y1 : wr.drew.cell? ⟨w.heap.size, 1, none⟩ = some (.slice no ns.length nc) := x1
        have hrd : r < wr.drew.heap.size := hrl.out
        have hxd : w.heap.size < wr.drew.heap.size := hxl
        have hM150 := HW.out.most
        have FX := hid hne2
        clear h1 h2 h3 h4 h5 h6 h7 hA hat D DD hne2
        go_wp2_with fail
        refine wp_region_held_drew (S := fun a => a.cell? ⟨r, 0, none⟩ = some (.slice ao L.length cap) ∧ a.cell? ⟨r, 1, none⟩ = some (.int .i64 (M : Int))) (by kernel_rfl) ⟨c0, c1⟩ (fun hHeld => ?_)
        refine tkk 0 ?_
        refine tkk 1 ?_
        refine tkk 2 ?_
        refine tkk 3 ?_
        refine tkk 4 ?_
        refine tkk 5 ?_
        refine tkk 6 ?_
        refine tkk 7 ?_
        refine tkk 8 ?_
        refine tkk 9 ?_
        refine wpAnyH_done (by kernel_rfl) ?_ _
        clear hHeld c0 c1 x0 x1
        generalize wr.drew = w4 at *
        go_wp2_with fail
        refine wp_region_held_drew (S := fun a => a.cell? ⟨w.heap.size, 0, none⟩ = some (.int .i64 p) ∧ a.cell? ⟨w.heap.size, 1, none⟩ = some (.slice no ns.length nc)) (by kernel_rfl) ⟨y0, y1⟩ (fun hHeld => ?_)
        refine tkk 0 ?_
        refine tkk 1 ?_
        refine tkk 2 ?_
        refine tkk 3 ?_
        refine tkk 5 ?_
        refine wpAnyH_ready (rs := [4, 6]) (by kernel_rfl) (by simp) ?_
        refine AllReadyH.cons rfl (fun K hK => ?_) (AllReadyH.cons rfl (fun K hK => ?_) AllReadyH.nil)
        go_simp
        refine hK.out _ _ ⟨y0, y1⟩ (fun _ => ?_)
        clear hK K
        refine rdy 6 (fun K hK => ?_)
        go_simp
        refine hK.out _ _ ⟨by go_simp, by go_simp⟩ (fun _ => ?_)
        clear hK K
        rotate_left 1
        go_simp
        refine hK.out _ _ ⟨by go_simp, by go_simp⟩ (fun _ => ?_)
        clear hK K
        refine rdy 4 (fun K hK => ?_)
        go_simp
        refine hK.out _ _ ⟨by go_simp, by go_simp⟩ (fun _ => ?_)
        clear hK K
        rotate_left 1
        all_goals
          refine rdy 7 (fun K hK => ?_)
          refine row_app_step elSh (by decide) (by decide) rfl _ _ rfl L.length (rowC ps) [.int .i64 p, .slice no ns.length nc] rfl (by intro u hu; simp at hu; rcases hu with rfl | rfl <;> rfl) (.slice ao L.length cap) (by rfl) RW.out w4.heap.size (by rfl) rfl (by omega) (.inr (.inr rfl)) ?_
          intro gg cp w5 hown hgrow hat
          have R := hid (MO.out gg cp w5 hown hgrow hat)
          have z0 : w5.cell? ⟨w.heap.size, 0, none⟩ = some (.int .i64 p) := (hgrow.cell_far ⟨w.heap.size, 0, none⟩ hxd (fun e => FX.out e.symm)).trans y0
          have z1 : w5.cell? ⟨w.heap.size, 1, none⟩ = some (.slice no ns.length nc) := (hgrow.cell_far ⟨w.heap.size, 1, none⟩ hxd (fun e => FX.out e.symm)).trans y1
          have z2 : w5.cell? ⟨r, 0, none⟩ = some (.slice ao L.length cap) := by rw [blk_cell R.out.1]; rfl
          have z3 : w5.frozen? ⟨r, 0, none⟩ = false := blk_free R.out.1 0
          refine hK.out _ _ ⟨z0, z1⟩ (fun _ => ?_)
          clear hK K hown hgrow hat
          simp only [Act.put, List.setIfInBounds_toArray, List.set_cons_zero, List.set_cons_succ, List.getElem_toArray, List.getElem_cons_succ, List.getElem_cons_zero]
          refine tkk 8 ?_
          refine tkk 9 ?_
          refine rdy 10 (fun K hK => ?_)
          go_simp
          have v2 : (w5.setCell ⟨r, 0, none⟩ (.slice (some ⟨gg, 0, none⟩) (L.length + 1) cp)).cell? ⟨r, 0, none⟩ = some (.slice (some ⟨gg, 0, none⟩) (L.length + 1) cp) := by rw [blk_cell R.out.2.2.2.1]; rfl
          have v0 : (w5.setCell ⟨r, 0, none⟩ (.slice (some ⟨gg, 0, none⟩) (L.length + 1) cp)).cell? ⟨w.heap.size, 0, none⟩ = some (.int .i64 p) := (World.cell?_of_block (Below.heap_setCell _ _ _ _ (fun e => hrx (by simpa using e.symm)))).trans z0
          have v1 : (w5.setCell ⟨r, 0, none⟩ (.slice (some ⟨gg, 0, none⟩) (L.length + 1) cp)).cell? ⟨w.heap.size, 1, none⟩ = some (.slice no ns.length nc) := (World.cell?_of_block (Below.heap_setCell _ _ _ _ (fun e => hrx (by simpa using e.symm)))).trans z1
          refine hK.out _ _ ⟨v0, v1⟩ (fun _ => ?_)
          clear hK K z0 z1 z2 z3 v0 v1
          have R2 := hid R.out.2.1
          have R3 := hid (And.intro R.out.2.2.1 R.out.2.2.2.2)
          clear R MO
          generalize w5.setCell ⟨r, 0, none⟩ (.slice (some ⟨gg, 0, none⟩) (L.length + 1) cp) = w6 at *
          refine wpAnyH_done (by kernel_rfl) ?_ _
          go_wp2_with fail
          go_ret
          refine ⟨by rw [HO.out.1]; simp, ?_, R3.out⟩
          rw [HO.out.2]
          exact R2.out

end Go.Proofs.YtemidicgipebjaaGreat
