/- A string's number. What comes of a right node flows, and comes to one value more, or none. -/
import Derived.Test.YtgdbaceehpcgbaaDoorCpMem
import Derived.Test.YtgdbaceehpcgbaaDoorCpFlow
namespace Go.Proofs.YtgdbaceehpcgbaaDoor
set_option linter.unusedSimpArgs false
open Go.RowKit

theorem num_old {S : Nat → Prop} {p i : Nat} {L : List ByteArray} (w : World) (h : PlS S p L w) (s : ByteArray) (hs : s.size ≤ maxLen) (hi : atT L s = some i) :
    Calls Tryd.prog 96 #[.pointer (some ⟨p, 0, none⟩), .string s] w fun e w' => e = .returned (.int .i64 (i : Int)) ∧ w' = w := by
  obtain ⟨m, v, h1, h2⟩ := h
  have c0 : w.cell? ⟨p, 0, none⟩ = some (.map (some m)) := by rw [blk_cell h1.blk]; rfl
  have HM := hid h1.map
  have hF : numC L s = some (i : Int) := by unfold numC; rw [hi]; rfl
  clear h1 h2
  go_enter Tryd.func96, Tryd.ntmps96
  go_wp2_with (first | (at_lookup; refine gm_look underCt rfl _ _ rfl m _ _ s rfl HM.out rfl hs ?_; rw [hF]) | fail)
  go_ret
  exact ⟨rfl, rfl⟩
/-- a string more -/
theorem pl_more {S : Nat → Prop} {p m : Nat} {v : Value} {L : List ByteArray} {s : ByteArray} {w w2 w3 : World} {g cap : Nat} (h : PlA p m v L w) (hS : ∀ b, FtP p m v b → S b) (hi : atT L s = none)
    (hM : MapN m (putF (numC L) s (L.length : Int)) (if (numC L s).isSome then L.length else L.length + 1) w2) (g2 : w.grownBy w2 (some m))
    (hown : w3.ownsRow 0 9 1 (.slice (some ⟨g, 0, none⟩) (L.length + 1) cap) (L.length + 1) (L.map Value.string ++ [.string s])) (hgrow : w2.grownBy w3 v.ownBlock) (hat : v.ownBlock = some g ∨ w2.heap.size ≤ g) :
    PlS (Up S w) p (L ++ [s]) (w3.setCell ⟨p, 1, none⟩ (.slice (some ⟨g, 0, none⟩) (L.length + 1) cap)) ∧ Keep S w (w3.setCell ⟨p, 1, none⟩ (.slice (some ⟨g, 0, none⟩) (L.length + 1) cap)) := by
  have hp := h.lt (.inl rfl)
  have hm := h.lt (.inr (.inl rfl))
  have s2 := g2.size
  have ne := h.ne
  have gp : g ≠ p ∧ g ≠ m := by
    rcases hat with h1 | h1
    · exact ne.2 g h1
    · omega
  have b2 : Blk p 59 #[.map (some m), v] w2 := (g2.block p hp (fun e => ne.1 (Option.some.inj e).symm)).trans h.blk
  have b3 : Blk p 59 #[.map (some m), v] w3 := (hgrow.block p (by omega) (fun e => (ne.2 p e.symm).1 rfl)).trans b2
  have M3 : MapN m (putF (numC L) s (L.length : Int)) (if (numC L s).isSome then L.length else L.length + 1) w3 := mapN_keep hM (hgrow.block m (by omega) (fun e => (ne.2 m e.symm).2 rfl))
  have k4 := Keep.set (S := fun b => b = p) rfl w3 1 (.slice (some ⟨g, 0, none⟩) (L.length + 1) cap)
  have hl : (L ++ [s]).length = L.length + 1 := by simp
  have hsz := hgrow.size
  refine ⟨⟨m, .slice (some ⟨g, 0, none⟩) (L.length + 1) cap, ⟨?_, ?_, ?_⟩, ?_⟩, ?_⟩
  · have := blk_set b3 1 (.slice (some ⟨g, 0, none⟩) (L.length + 1) cap)
    simpa using this
  · rw [hl, List.map_append]
    refine row_keep hown fun k hk => ?_
    simp [Value.ownBlock] at hk
    subst hk
    obtain ⟨cur, hc⟩ := row_lt hown (g := g) rfl
    exact k4.block g (blk_lt hc) gp.1
  · rw [numC_some, hi] at M3
    rw [hl]
    exact mapN_ext (mapN_keep M3 (k4.block m (mapN_lt M3) ne.1)) (numC_snoc hi)
  · rintro b (rfl | rfl | hb)
    · exact .inl (hS _ (.inl rfl))
    · exact .inl (hS _ (.inr (.inl rfl)))
    · simp [Value.ownBlock] at hb
      subst hb
      rcases hat with h1 | h1
      · exact .inl (hS _ (.inr (.inr h1)))
      · exact .inr (by omega)
  · have k2 : Keep S w w2 := Keep.grown g2 fun k hk => hS _ (.inr (.inl (Option.some.inj hk).symm))
    have k3 : Keep S w2 w3 := Keep.grown hgrow fun k hk => hS _ (.inr (.inr hk))
    exact (k2.trans k3 (fun _ _ e => e)).trans k4 (fun b _ e => by subst e; exact hS _ (.inl rfl))
set_option maxRecDepth 100000 in
set_option maxHeartbeats 1600000 in
theorem num_new {S : Nat → Prop} {p : Nat} {L : List ByteArray} (w : World) (h : PlS S p L w) (s : ByteArray) (hs : s.size ≤ maxLen) (hi : atT L s = none) (hl : L.length ≤ 1000000) :
    Calls Tryd.prog 96 #[.pointer (some ⟨p, 0, none⟩), .string s] w fun e w' => e = .returned (.int .i64 (L.length : Int)) ∧ PlS (Up S w) p (L ++ [s]) w' ∧ Keep S w w' := by
  obtain ⟨m, v, h1, h2⟩ := h
  obtain ⟨ao, cap, rfl⟩ := row_shape h1.row
  have c0 : w.cell? ⟨p, 0, none⟩ = some (.map (some m)) := by rw [blk_cell h1.blk]; rfl
  have c1 : w.cell? ⟨p, 1, none⟩ = some (.slice ao L.length cap) := by rw [blk_cell h1.blk]; rfl
  have HM := hid h1.map
  have HA := hid h1
  have HS := hid h2
  have HI := hid hi
  have hF : numC L s = none := by unfold numC; rw [hi]; rfl
  have hp := h1.lt (.inl rfl)
  clear h1 h2 hi
  go_enter Tryd.func96, Tryd.ntmps96
  go_wp2_with (first | (at_lookup; refine gm_look underCt rfl _ _ rfl m _ _ s rfl HM.out rfl hs ?_; rw [hF]) | (at_mapUpdate; go_loud (refine gm_put underCt rfl _ _ _ rfl m _ _ s (L.length : Int) rfl HM.out (by unfold maxLen; omega) rfl hs rfl (WalkArith.wf_i64 (by omega)) ?_; intro w2 hM2 g2; have HM2 := hid hM2; have HG2 := hid g2; have b2 : Blk p 59 #[.map (some m), .slice ao L.length cap] w2 := (g2.block p hp (fun e => HA.out.ne.1 (Option.some.inj e).symm)).trans HA.out.blk; have d1 : w2.cell? ⟨p, 1, none⟩ = some (.slice ao L.length cap) := by { rw [blk_cell b2]; rfl }; have R2 := hid (row_keep (c := w2) HA.out.row (fun b hb => g2.block b (HA.out.lt (.inr (.inr hb))) (fun e => (HA.out.ne.2 b hb).2 (Option.some.inj e)))); have B2 := hid b2; clear hM2 g2 b2)) | (at_builtin; go_loud (refine row_app elText (by decide) (by decide) rfl _ _ rfl L.length (L.map Value.string) [.string s] rfl (by intro u hu; simp at hu; subst hu; rfl) (.slice ao L.length cap) (by rfl) R2.out w2.heap.size (by rfl) rfl (by omega) ?_; intro g cp w3 hown hgrow hat; have W := hid (pl_more HA.out HS.out HI.out HM2.out HG2.out hown hgrow hat); have b3 := hid ((hgrow.block p (Nat.lt_of_lt_of_le hp HG2.out.size) (fun e => (HA.out.ne.2 p e.symm).1 rfl)).trans B2.out); have f3 : w3.frozen? ⟨p, 1, none⟩ = false := blk_free (show Blk p 59 #[.map (some m), .slice ao L.length cap] w3 from b3.out) 1; have e3 : w3.cell? ⟨p, 1, none⟩ = some (.slice ao L.length cap) := by { rw [blk_cell (show Blk p 59 #[.map (some m), .slice ao L.length cap] w3 from b3.out)]; rfl }; clear hown hgrow hat)) | fail)
  go_ret
  exact ⟨rfl, W.out⟩
theorem number_calls {S : Nat → Prop} {p : Nat} {L : List ByteArray} (w : World) (h : PlS S p L w) (s : ByteArray) (hs : s.size ≤ maxLen) (hl : L.length ≤ 1000000) :
    Calls Tryd.prog 96 #[.pointer (some ⟨p, 0, none⟩), .string s] w fun e w' => e = .returned (.int .i64 (poolN L s)) ∧ PlS (Up S w) p (ofT L s) w' ∧ Keep S w w' := by
  cases hi : atT L s with
  | some i =>
    rw [show poolN L s = (i : Int) from by unfold poolN numT; rw [hi]; simp, show ofT L s = L from by unfold ofT; rw [hi]; rfl]
    exact (num_old w h s hs hi).mono fun e w' ⟨h1, h2⟩ => by subst h2; exact ⟨h1, h.mono (fun b _ hb => .inl hb), Keep.refl _ _⟩
  | none =>
    rw [show poolN L s = (L.length : Int) from by unfold poolN numT; rw [hi]; simp, show ofT L s = L ++ [s] from by unfold ofT; rw [hi]; rfl]
    exact num_new w h s hs hi hl

end Go.Proofs.YtgdbaceehpcgbaaDoor

namespace Go.Proofs.YtgdbaceehpcgbaaDoor
open Go.RowKit

theorem kinds_of {k o : Int} {m c : Nat} (h : manyD k o m c = true) : k = 1 ∨ k = 2 ∨ k = 3 ∨ k = 4 ∨ k = 6 ∨ k = 7 ∨ k = 9 ∨ k = 10 ∨ k = 11 ∨ k = 12 ∨ k = 13 ∨ k = 14 ∨ k = 15 ∨ k = 16 ∨ k = 17 ∨ k = 18 ∨ k = 19 ∨ k = 20 ∨ k = 23 ∨ k = 24 ∨ k = 25 ∨ k = 26 ∨ k = 27 ∨ k = 28 ∨ k = 29 ∨ k = 30 ∨ k = 31 ∨ k = 32 ∨ k = 33 ∨ k = 34 := by
  unfold manyD at h
  repeat' split at h
  all_goals first | omega | cases h
theorem built_many {o : Int} (h : 1 ≤ o ∧ o ≤ 7) : ((builtT o).2 : Int) = bltN o ∧ (builtT o).2 ≤ 2 := by
  have : o = 1 ∨ o = 2 ∨ o = 3 ∨ o = 4 ∨ o = 5 ∨ o = 6 ∨ o = 7 := by omega
  rcases this with rfl | rfl | rfl | rfl | rfl | rfl | rfl <;> decide
/-- the end of a node that has its parts one behind the other -/
theorem ge_end {k o n : Int} {s : ByteArray} {ml m : Nat} {c : Cs} (hm : manyD k o ml m = true) (ho : opD k o = true) (h7 : k ≠ 7) (hk : k ≠ 11 ∧ k ≠ 12 ∧ k ≠ 30 ∧ k ≠ 28) (h29 : k ≠ 29) :
    GE NoX ((m : Int) + if k = 16 then 1 else 0) (endC k o n s m c).1 ((if isD k = 1 then 1 else 0) - ((m : Int) + if k = 16 then 1 else 0)) := by
  have one : ∀ {b δ : Int} {x y : In} (_ : x = y) (_ : goB y.1 = false) (_ : (effI y.1 y.2.1).1 ≤ b) (_ : (effI y.1 y.2.1).2 - (effI y.1 y.2.1).1 = δ), GE NoX b [x] δ := fun e h1 h2 h3 => e ▸ ge_one h1 h2 h3
  rcases kinds_of hm with rfl | rfl | rfl | rfl | rfl | rfl | rfl | rfl | rfl | rfl | rfl | rfl | rfl | rfl | rfl | rfl | rfl | rfl | rfl | rfl | rfl | rfl | rfl | rfl | rfl | rfl | rfl | rfl | rfl | rfl
  case inr.inr.inr.inr.inr.inl => exact absurd rfl h7
  case inr.inr.inr.inr.inr.inr.inr.inr.inl => exact absurd rfl hk.1
  case inr.inr.inr.inr.inr.inr.inr.inr.inr.inl => exact absurd rfl hk.2.1
  all_goals try omega
  all_goals simp [manyD] at hm
  all_goals try subst hm
  all_goals simp [endC, isD]
  case inr.inr.inr.inr.inr.inr.inr.inr.inr.inr.inr.inr.inr.inr.inl =>
    simp [opD] at ho
    have hb := built_many ho
    refine ge_one rfl ?_ ?_
    · simp [effI]; rw [if_pos ho]; try omega
    · simp [effI]; rw [if_pos ho]; try (simp; try omega)
  case inr.inr.inr.inr.inr.inr.inr.inr.inr.inr.inr.inr.inl =>
    refine ge_one rfl ?_ ?_
    · simp [effI]; rw [if_pos (by omega)]; try omega
    · simp [effI]; rw [if_pos (by omega)]; try simp
  case inr.inr.inr.inr.inr.inr.inr.inr.inr.inr.inr.inr.inr.inl =>
    refine ge_one rfl ?_ ?_
    · simp [effI]; rw [if_pos (by omega)]; try omega
    · simp [effI]; rw [if_pos (by omega)]; try (simp; try omega)
  all_goals refine ge_one rfl ?_ ?_ <;> simp [effI, effP, siteC, textC]
theorem two_of {α : Type} {l : List α} (h : l.length = 2) : ∃ a b, l = [a, b] := by
  match l, h with
  | [a, b], _ => exact ⟨a, b, rfl⟩
theorem three_of {α : Type} {l : List α} (h : l.length = 3) : ∃ a b c, l = [a, b, c] := by
  match l, h with
  | [a, b, c], _ => exact ⟨a, b, c, rfl⟩
theorem asm_two {k : Int} (h : k = 11 ∨ k = 12) (x y e : List In) : asmC k [x, y] e = joinC x (joinC [(k + 13, 1 + (y.length : Int), 0)] y) := by
  show (if k = 11 ∨ k = 12 then _ else _) = _
  rw [if_pos h]
theorem cK_plain {k : Int} {s : ByteArray} (h7 : k ≠ 7) (h16 : k ≠ 16) (ns : List ByteArray) (x : Nd) (r : List Nd) (i : Nat) (c : Cs) : cK k s ns (x :: r) i c = ((cN x c).1 :: (cK k s ns.tail r (i + 1) (cN x c).2).1, (cK k s ns.tail r (i + 1) (cN x c).2).2) := by
  have hh : hookC k s ns i (cN x c).2 = ([], (cN x c).2) := by unfold hookC; rw [if_neg h7, if_neg (fun h => h16 h.1)]
  rw [cK, hh, join_nil]
theorem ge_cN {bb : Bds} (t : Nd) : ∀ a, rightD bb t a = true → ∀ c, GE NoX 0 (cN t c).1 (if a = 1 then 1 else 0) := by
  refine Nd.ind (P := fun t => ∀ a, rightD bb t a = true → ∀ c, GE NoX 0 (cN t c).1 (if a = 1 then 1 else 0)) ?_ t
  clear t
  intro k o n s ns ks p ih a hr c
  rw [rightD, Bool.and_eq_true, Bool.and_eq_true, Bool.and_eq_true] at hr
  obtain ⟨ha, hm, hf, hk⟩ := hr
  have ha' := beq_iff_eq.1 ha
  subst ha'
  unfold fldD at hf
  rw [Bool.and_eq_true, Bool.and_eq_true] at hf
  have ho := hf.2.1
  clear hf ha
  rw [cN]
  have ht : GE NoX 0 [((1 : Int), (1 : Int), (0 : Int))] 0 := ge_one rfl (by decide) (by decide)
  have key : GE NoX (0 + 0) (asmC k (cK k s ns ks 0 c).1 (endC k o n s ks.length (cK k s ns ks 0 c).2).1) (if isD k = 1 then 1 else 0) := by
    rw [Int.zero_add]
    by_cases h2 : k = 11 ∨ k = 12
    · have hn : ks.length = 2 := by rcases h2 with rfl | rfl <;> simpa [manyD] using hm
      obtain ⟨u, v, rfl⟩ := two_of hn
      rw [rightDL, rightDL, Bool.and_eq_true, Bool.and_eq_true] at hk
      have hx := ih u (by simp) _ hk.1 c
      have hy := ih v (by simp) _ hk.2.1 (cN u c).2
      rw [show wantD k 0 = 1 by unfold wantD; rw [if_neg (by omega), if_neg (by omega)]] at hx
      rw [show wantD k (0 + 1) = 1 by unfold wantD; rw [if_neg (by omega), if_neg (by omega)]] at hy
      rw [cK_plain (by omega) (by omega), cK_plain (by omega) (by omega), cK]
      show GE NoX 0 (asmC k [(cN u c).1, (cN v (cN u c).2).1] _) _
      rw [asm_two h2, if_pos (by rcases h2 with rfl | rfl <;> rfl)]
      exact ge_and (by omega) hx hy
    by_cases h30 : k = 30
    · subst h30
      have hn : ks.length = 2 := by simpa [manyD] using hm
      obtain ⟨u, v, rfl⟩ := two_of hn
      rw [rightDL, rightDL, Bool.and_eq_true, Bool.and_eq_true] at hk
      have hx := ih u (by simp) _ hk.1 c
      have hy := ih v (by simp) _ hk.2.1 (cN u c).2
      rw [cK_plain (by omega) (by omega), cK_plain (by omega) (by omega), cK]
      exact ge_while hx hy (tick_first u c)
    by_cases h28 : k = 28
    · subst h28
      have hn : ks.length = 3 := by simpa [manyD] using hm
      obtain ⟨u, v, z, rfl⟩ := three_of hn
      rw [rightDL, rightDL, rightDL, Bool.and_eq_true, Bool.and_eq_true, Bool.and_eq_true] at hk
      have hx := ih u (by simp) _ hk.1 c
      have hy := ih v (by simp) _ hk.2.1 (cN u c).2
      have hz := ih z (by simp) _ hk.2.2.1 (cN v (cN u c).2).2
      rw [cK_plain (by omega) (by omega), cK_plain (by omega) (by omega), cK_plain (by omega) (by omega), cK]
      exact ge_if hx hy hz
    have g := fun (b : Int) h1 h2 => ge_cK (s := s) ks ns 0 c b hk ih h1 h2
    generalize (cK k s ns ks 0 c).2 = c' at *
    generalize (cK k s ns ks 0 c).1 = ps at *
    rw [asm_gen ⟨by omega, by omega, h30, h28⟩]
    by_cases h7 : k = 7
    · subst h7
      have gA := ge_all (g 1 (fun _ => by decide) (by decide))
      rw [dK_zero 7 (.inl rfl)] at gA
      have e0 : (endC 7 o n s ks.length c').1 = [] := rfl
      have h12 : GE NoX 0 [((12 : Int), (0 : Int), (0 : Int))] 1 := ge_one rfl (by decide) (by decide)
      rw [e0, join_nil, if_pos rfl, show (if isD 7 = 1 then (1 : Int) else 0) = 1 + 0 from rfl]
      exact ge_join0 h12 gA
    have gA := ge_all (g 0 (fun h => absurd h h7) (by decide))
    clear g
    rw [if_neg h7, nil_join]
    by_cases h29 : k = 29
    · subst h29
      rw [dK_zero 29 (.inr rfl)] at gA
      have e0 : (endC 29 o n s ks.length c').1 = [] := rfl
      rw [e0, join_nil]
      exact gA
    have gE := ge_end (n := n) (s := s) (c := c') hm ho h7 ⟨by omega, by omega, h30, h28⟩ h29
    rw [dK_sum k h7 h29 h28 h30] at gA
    have hs : (if k = 16 ∧ 0 = 0 ∧ ks ≠ [] then (1 : Int) else 0) = if k = 16 then 1 else 0 := by
      by_cases h : k = 16
      · subst h
        rw [if_pos rfl, if_pos ⟨rfl, rfl, by rintro rfl; simp [manyD] at hm⟩]
      · rw [if_neg h, if_neg (fun q => h q.1)]
    rw [hs] at gA
    have := ge_join0 gA (ge_base gE (by omega))
    rwa [show ((ks.length : Int) + if k = 16 then 1 else 0) + ((if isD k = 1 then 1 else 0) - ((ks.length : Int) + if k = 16 then 1 else 0)) = if isD k = 1 then 1 else 0 by omega] at this
  have := ge_join0 ht key
  rwa [Int.zero_add] at this
/-- a function's instructions flow -/
theorem ge_body {bb : Bds} {l : List Nd} (h : (l.all fun x => rightD bb x 2) = true) (L : List ByteArray) : GE NoX 0 (allC (cK 29 ⟨#[]⟩ [] l 0 (L, 0)).1) 0 := by
  have hk : ∀ (l : List Nd) (i : Nat), (l.all fun x => rightD bb x 2) = true → rightDL bb l 29 i = true := fun l => by
    induction l with
    | nil => intro i _; rw [rightDL]
    | cons x r ih =>
      intro i h
      rw [List.all_cons, Bool.and_eq_true] at h
      rw [rightDL, show wantD 29 i = 2 by simp [wantD], h.1, ih (i + 1) h.2]
      rfl
  have g := ge_all (ge_cK (s := ⟨#[]⟩) l [] 0 (L, 0) 0 (hk l 0 h) (fun x _ a ha c => ge_cN x a ha c) (fun h => absurd h (by decide)) (by decide))
  rwa [dK_zero 29 (.inr rfl)] at g

end Go.Proofs.YtgdbaceehpcgbaaDoor
