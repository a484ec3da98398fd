/- Depths, the document's way: again and again over all, until nothing grows. -/
import Derived.Test.YtnojlfdojmkonaaGreatDoorJoint2
import Derived.Test.YtnojlfdojmkonaaGreatDoorCdDep
import Derived.Test.YtnojlfdojmkonaaGreatDoorCdRef
import Derived.Deep.Cut
import Derived.Deep.CutRange
import Derived.Deep.DeepCutAuto
import Derived.Deep.CutBlock
namespace Go.Proofs.YtnojlfdojmkonaaGreatDoor
set_option linter.unusedSimpArgs false
set_option linter.unusedVariables false
set_option maxRecDepth 100000
open Go.RowKit

theorem keep_two {is : List In} {k : Nat} {x : In} {t : Int} (hx : is[k]? = some x) (ht : (tgL is k)[1]? = some t) : decide (23 < x.1) = keepB x.1 := by
  unfold tgL at ht
  rw [hx] at ht
  simp only at ht
  unfold tgI at ht
  split at ht
  · simp at ht
  · split at ht
    · simp at ht
    · rename_i h22
      split at ht
      · rename_i h
        have : x.1 = 22 ∨ x.1 = 23 ∨ x.1 = 24 ∨ x.1 = 25 := by simpa [goB] using h
        rcases this with h | h | h | h
        · exact absurd h h22
        all_goals rw [h]; rfl
      · simp at ht
/-- within a sweep: what was filled in, and whether it grew -/
structure Sw (c : Cd) (N k : Nat) (g : Bool) (F : List Int) : Prop where
  seen : Seen c F (fun _ _ => True)
  less : unseen F ≤ N
  grew : g = true → unseen F + 1 ≤ N
  still : g = false → ∀ (j : Nat) d, j < k → F[j]? = some d → 0 ≤ d → Fit c F j d
structure Mw (c : Cd) (N k : Nat) (dk : Int) (i : Nat) (g : Bool) (F : List Int) : Prop where
  sw : Sw c N k g F
  fit : FitTo c F k dk i
  here : F[k]? = some dk
theorem Mw.push {c : Cd} {N k i m n : Nat} {dk e : Int} {g : Bool} {F : List Int} (h : Mw c N k dk i g F) (hr : rch c.ins n k dk) (h0 : 0 ≤ dk) (hm : F[m]? = some (-1)) (hx : (nxL c.ins k dk)[i]? = some ((m : Int), e)) (he0 : 0 ≤ e) (he : e ≤ c.d) : Mw c N k dk (i + 1) true (F.set m e) := by
  have hlt : m < F.length := (List.getElem?_eq_some_iff.1 hm).1
  have hu := unseen_set he0 hm
  have hl := h.sw.less
  exact ⟨⟨seen_set h.sw.seen hm he0 he (rch_next hr (List.mem_of_getElem? hx)) trivial (fun _ _ _ _ _ => trivial), by omega, fun _ => by omega, fun h => by cases h⟩, fitTo_next (fitTo_set hm h.fit) hx he rfl (List.getElem?_set_self hlt), set_keep hm h.here h0⟩
theorem set_same {F : List Int} {m : Nat} {e : Int} (h : F[m]? = some e) : F.set m e = F := by
  refine List.ext_getElem? fun i => ?_
  by_cases hi : m = i
  · subst hi
    rw [List.getElem?_set_self (List.getElem?_eq_some_iff.1 h).1, h]
  · rw [List.getElem?_set_ne hi]
theorem Mw.same {c : Cd} {N k i m : Nat} {dk e : Int} {g : Bool} {F : List Int} (h : Mw c N k dk i g F) (hm : F[m]? = some e) (hx : (nxL c.ins k dk)[i]? = some ((m : Int), e)) (he : e ≤ c.d) : Mw c N k dk (i + 1) g (F.set m e) := by
  rw [set_same hm]
  exact ⟨h.sw, fitTo_next h.fit hx he rfl hm, h.here⟩
theorem Mw.done {c : Cd} {N k : Nat} {dk : Int} {g : Bool} {F : List Int} (h : Mw c N k dk (tgL c.ins k).length g F) : Sw c N (k + 1) g F :=
  ⟨h.sw.seen, h.sw.less, h.sw.grew, fun hg j d hj hd h0 => by
    by_cases hjk : j = k
    · subst hjk
      rw [h.here] at hd
      obtain rfl := Option.some.inj hd
      exact fitTo_all h.fit (by rw [nx_len]; exact Nat.le_refl _)
    · exact h.sw.still hg j d (by omega) hd h0⟩
theorem Mw.two {c : Cd} {N k i m n : Nat} {dk e f : Int} {g : Bool} {F : List Int} (h : Mw c N k dk i g F) (hr : rch c.ins n k dk) (hm : F[m]? = some f) (hf : f ≠ -1) (hx : (nxL c.ins k dk)[i]? = some ((m : Int), e)) (hne : f ≠ e) : ∀ ds, ¬ Flow c ds := by
  rcases h.sw.seen.2.2 m f hm with h1 | ⟨_, _, ⟨n', hr'⟩, _⟩
  · exact absurd h1 hf
  · exact no_two hr (List.mem_of_getElem? hx) hr' hne
theorem Sw.skip {c : Cd} {N k : Nat} {dk : Int} {g : Bool} {F : List Int} (h : Sw c N k g F) (hk : F[k]? = some dk) (hn : dk < 0) : Sw c N (k + 1) g F :=
  ⟨h.seen, h.less, h.grew, fun hg j d hj hd h0 => by
    by_cases hjk : j = k
    · subst hjk
      rw [hk] at hd
      obtain rfl := Option.some.inj hd
      omega
    · exact h.still hg j d (by omega) hd h0⟩
/-- between sweeps -/
structure Tn (c : Cd) (τ : Nat) (g : Bool) (F : List Int) : Prop where
  seen : Seen c F (fun _ _ => True)
  grow : g = true → unseen F + τ + 1 ≤ c.ins.length
  still : g = false → Seen c F (Fit c F)
theorem Tn.begin {c : Cd} {τ : Nat} {g : Bool} {F : List Int} (h : Tn c τ g F) : Sw c (unseen F) 0 false F := ⟨h.seen, Nat.le_refl _, (fun h => by cases h), fun _ j d hj => absurd hj (Nat.not_lt_zero _)⟩
theorem Tn.next {c : Cd} {τ N : Nat} {g : Bool} {F : List Int} (h : Sw c N c.ins.length g F) (hN : N + τ + 1 ≤ c.ins.length) : Tn c (τ + 1) g F :=
  ⟨h.seen, fun hg => by have := h.grew hg; omega, fun hg => ⟨h.seen.1, h.seen.2.1, fun k d hk => (h.seen.2.2 k d hk).imp id fun ⟨a, b, r, _⟩ => ⟨a, b, r, h.still hg k d (by rw [← h.seen.1]; exact (List.getElem?_eq_some_iff.1 hk).1) hk a⟩⟩⟩
theorem unseen_first {F : List Int} (h : F[0]? = some 0) : unseen F + 1 ≤ F.length := by
  cases F with
  | nil => simp at h
  | cons x r =>
    simp at h
    subst h
    have := unseen_le r
    unfold unseen at *
    rw [List.count_cons]
    simp
    exact this
theorem Tn.start {c : Cd} {X : List Int} (hl : X.length = c.ins.length) (h0 : X[0]? = some 0) (hX : ∀ (k : Nat) e, 1 ≤ k → X[k]? = some e → e = -1) (hd : 0 ≤ c.d) : Tn c 0 true X :=
  ⟨⟨hl, h0, fun k e hk => by
    by_cases hk0 : k = 0
    · subst hk0
      rw [h0] at hk
      obtain rfl := Option.some.inj hk
      exact .inr ⟨Int.le_refl _, hd, ⟨0, rfl, rfl⟩, trivial⟩
    · exact .inl (hX k e (by omega) hk)⟩, fun _ => by have := unseen_first h0; omega, fun h => by cases h⟩
/-- the call's own blocks -/
structure DR (w0 : World) (g : Nat) (cs : Array Value) (F : List Int) (w : World) : Prop where
  box : Blk g 45 cs w
  fnd : IntsR (g + 1) F w
  low : Below g w0 w
  siz : w0.heap.size = g
theorem DR.on {w0 : World} {g : Nat} {cs : Array Value} {F : List Int} {a c : World} (h : DR w0 g cs F a) (q : Below a.heap.size a c) : DR w0 g cs F c :=
  ⟨blk_on h.box q, blk_on h.fnd q, h.low.trans (q.mono (by have := blk_lt h.box; omega)), h.siz⟩
theorem DR.set {w0 : World} {g : Nat} {cs : Array Value} {F : List Int} {w : World} (h : DR w0 g cs F w) (j : Nat) (e : Int) : DR w0 g cs (F.set j e) (w.setCell ⟨g + 1, j, none⟩ (.int .i64 e)) :=
  ⟨blk_setO h.box (by omega), ir_set h.fnd j e, h.low.trans ((Keep.set (S := fun k => g < k) (g := g + 1) (by omega) w j _).below (by have := blk_lt h.box; omega) (fun k hk => by omega)), h.siz⟩
theorem TgK.on {g : Nat} {tv v : Value} {xs : List Int} {a c : World} (h : TgK g tv v xs a) (q : Below a.heap.size a c) : TgK g tv v xs c := by
  rcases h with h | ⟨b, h1, h2, h3, h4⟩
  · exact .inl h
  · exact .inr ⟨b, h1, h2, h3, blk_on h4 q⟩
set_option maxHeartbeats 12800000 in
theorem ddepths_calls (B : Nat) (c : Cd) (iv : Value) (w : World) (hB : B ≤ w.heap.size) (hI : InsIn B w iv c.ins) (hn : 1 ≤ c.ins.length) (hl : c.ins.length ≤ 4000) (hd : 0 ≤ c.d ∧ c.d ≤ 64) (hA : ∀ (k : Nat) (x : In), c.ins[k]? = some x → goB x.1 = true → 0 ≤ x.2.1) :
    Calls Tryz.prog 44 #[cdV c iv] w fun e w' => DepOut c e w' ∧ Below w.heap.size w w' := by
  obtain ⟨p, l, s, d, is⟩ := c
  simp only [cdV] at *
  obtain ⟨ia, ic, rfl⟩ := insIn_shape hI
  have HA := hid hA
  have HI := hid hI
  have EF := hid deffect_calls
  have TG := hid (fun W hW hI => dtargets_calls B ⟨p, l, s, d, is⟩ (.slice ia is.length ic) (w := W) (hB := hW) (hI := hI) (hl := by simp only; omega))
  clear hA hI
  obtain ⟨i0, hi0, hz0, hz1, hz2⟩ := infoInt
  have BX := hid (blk_new w 45 #[.int .i64 p, .int .i64 l, .int .i64 s, .int .i64 d, .slice ia is.length ic])
  have AL := hid (box_below w (.cells #[.int .i64 p, .int .i64 l, .int .i64 s, .int .i64 d, .slice ia is.length ic] 45))
  have hsz : (w.alloc (.cells #[.int .i64 p, .int .i64 l, .int .i64 s, .int .i64 d, .slice ia is.length ic] 45)).heap.size = w.heap.size + 1 := by simp
  generalize hW : w.alloc (.cells #[.int .i64 p, .int .i64 l, .int .i64 s, .int .i64 d, .slice ia is.length ic] 45) = w1 at *
  have c4 : w1.cell? ⟨w.heap.size, 4, none⟩ = some (.slice ia is.length ic) := blk_cellZ BX.out 4 rfl
  have MK := hid (made_row w1 is.length)
  rw [hsz] at MK
  have AL2 := hid (AL.out.trans ((box_below w1 (.cells (Array.replicate is.length (.int .i64 0)) 3)).mono (by omega)))
  have BX2 := hid (blk_on BX.out (box_below w1 (.cells (Array.replicate is.length (.int .i64 0)) 3)))
  go_enter Tryz.func44, Tryz.ntmps44
  go_wp2_with (first | (at_make; refine wpList_make_row _ rfl _ _ _ rfl _ i0 _ underInts hi0 hz0 hz1 rfl .i64 .i64 is.length (by rfl) (by rfl) (by rw [hz2]; omega) (by omega) ?_; rw [made_ints]) | fail)
  generalize hW2 : w1.alloc (.cells (Array.replicate is.length (.int .i64 0)) 3) = w2 at *
  have D2 := hid (show DR w w.heap.size #[.int .i64 p, .int .i64 l, .int .i64 s, .int .i64 d, .slice ia is.length ic] (List.replicate is.length 0) w2 from ⟨BX2.out, MK.out, AL2.out, rfl⟩)
  clear BX2 MK AL2 AL BX c4
  go_loopw [5] (fun iV wr => ∃ (i : Nat) (X : List Int), 1 ≤ i ∧ i ≤ is.length ∧ iV = .int .i64 i ∧ Hid (X.length = is.length ∧ X[0]? = some 0 ∧ ∀ (k : Nat) e, 1 ≤ k → k < i → X[k]? = some e → e = -1) ∧ Hid (DR w w.heap.size #[.int .i64 p, .int .i64 l, .int .i64 s, .int .i64 d, .slice ia is.length ic] X wr)) (fun iV _ => is.length - (intOf iV).toNat)
  case atStart => exact ⟨1, _, by omega, by omega, rfl, hid ⟨by simp, by rw [List.getElem?_replicate]; rw [if_pos (by omega)], fun k e h1 h2 => by omega⟩, D2⟩
  case round =>
    obtain ⟨i, X, h1i, hi, rfl, hX, hD⟩ := hrel
    rename World => wa
    have c4 : wa.cell? ⟨w.heap.size, 4, none⟩ = some (.slice ia is.length ic) := blk_cellZ hD.out.box 4 rfl
    by_cases hil : i < is.length
    · have hil' : (i : Int) < (is.length : Int) := by omega
      have fr := ir_free hD.out.fnd i
      obtain ⟨y, hy⟩ : ∃ y, X[i]? = some y := ⟨_, List.getElem?_eq_getElem (by have := hX.out.1; omega)⟩
      have y0 := ir_cell hD.out.fnd hy
      have R2 := hid (hD.out.set i (-1))
      have X2 := hid (show (X.set i (-1)).length = is.length ∧ (X.set i (-1))[0]? = some 0 ∧ ∀ (k : Nat) e, 1 ≤ k → k < i + 1 → (X.set i (-1))[k]? = some e → e = -1 from ⟨by rw [List.length_set]; exact hX.out.1, by rw [List.getElem?_set_ne (by omega)]; exact hX.out.2.1, fun k e hk1 hk he => by
        by_cases hki : k = i
        · subst hki
          rw [List.getElem?_set_self (by have := hX.out.1; omega)] at he
          exact (Option.some.inj he).symm
        · rw [List.getElem?_set_ne (by omega)] at he
          exact hX.out.2.2 k e hk1 (by omega) he⟩)
      clear hy
      go_wp2_with fail
      exact ⟨⟨i + 1, X.set i (-1), by omega, by omega, by simp, X2, R2⟩, by simp [intOf]; omega⟩
    have hie : i = is.length := by omega
    subst hie
    have T0 := hid (Tn.start (c := ⟨p, l, s, d, is⟩) hX.out.1 hX.out.2.1 (fun k e h1 hk => hX.out.2.2 k e h1 (by have := (List.getElem?_eq_some_iff.1 hk).1; rw [hX.out.1] at this; exact this) hk) hd.1)
    have h1n : ¬ (is.length : Int) < (is.length : Int) := by omega
    clear h1i hi hil hX
    go_wp2_with fail
    clear c4
    go_loopw [6, 7] (fun gV τV wr => ∃ (g : Bool) (τ : Nat) (F : List Int), gV = .bool g ∧ τV = .int .i64 τ ∧ τ ≤ is.length + 1 ∧ Hid (Tn ⟨p, l, s, d, is⟩ τ g F) ∧ Hid (DR w w.heap.size #[.int .i64 p, .int .i64 l, .int .i64 s, .int .i64 d, .slice ia is.length ic] F wr)) (fun _ τV _ => is.length + 1 - (intOf τV).toNat)
    case atStart => exact ⟨true, 0, X, rfl, rfl, by omega, T0, hD⟩
    case round =>
      clear T0 hD
      obtain ⟨g, τ, F, rfl, rfl, hτ, hT, hD⟩ := hrel
      rename World => wb
      have c4 : wb.cell? ⟨w.heap.size, 4, none⟩ = some (.slice ia is.length ic) := blk_cellZ hD.out.box 4 rfl
      cases g with
      | false =>
        have FL := hid (seen_flow (hT.out.still rfl))
        have NS := hid (nsIn_blk (n := is.length) (xs := F) FL.out.1 hD.out.fnd)
        have LW := hid hD.out.low
        by_cases hτl : τ ≤ is.length
        · have hτl' : (τ : Int) ≤ (is.length : Int) := by omega
          as_aux_lemma =>
            go_wp2_with fail
            go_ret2
            exact ⟨.inl ⟨_, _, rfl, FL.out, NS.out⟩, LW.out⟩
        · have hτl' : (is.length : Int) < (τ : Int) := by omega
          as_aux_lemma =>
            go_wp2_with fail
            go_ret2
            exact ⟨.inl ⟨_, _, rfl, FL.out, NS.out⟩, LW.out⟩
      | true =>
      have hgr := hT.out.grow rfl
      simp only at hgr
      have hτl' : (τ : Int) ≤ (is.length : Int) := by omega
      have S0 := hid hT.out.begin
      generalize unseen F = N at *
      clear hT
      go_wp2_with fail
      clear c4
      go_loopw [6, 8] (fun gV kV wr => ∃ (g : Bool) (k : Nat) (F : List Int), gV = .bool g ∧ kV = .int .i64 k ∧ k ≤ is.length ∧ Hid (Sw ⟨p, l, s, d, is⟩ N k g F) ∧ Hid (DR w w.heap.size #[.int .i64 p, .int .i64 l, .int .i64 s, .int .i64 d, .slice ia is.length ic] F wr)) (fun _ kV _ => is.length - (intOf kV).toNat)
      case atStart => exact ⟨false, 0, F, rfl, rfl, by omega, S0, hD⟩
      case round =>
        clear S0 hD
        obtain ⟨g, k, F, rfl, rfl, hk, hS, hD⟩ := hrel
        rename World => wc
        have c4 : wc.cell? ⟨w.heap.size, 4, none⟩ = some (.slice ia is.length ic) := blk_cellZ hD.out.box 4 rfl
        by_cases hkl : k < is.length
        rotate_left 1
        · have hke : k = is.length := by omega
          subst hke
          have TN := hid (Tn.next (τ := τ) hS.out hgr)
          as_aux_lemma =>
            go_wp2_with fail
            exact ⟨⟨g, τ + 1, F, rfl, by simp, by omega, TN, hD⟩, by simp [intOf]; omega⟩
        have hkl' : (k : Int) < (is.length : Int) := by omega
        obtain ⟨dk, hdk⟩ : ∃ dk, F[k]? = some dk := ⟨_, List.getElem?_eq_getElem (by rw [hS.out.seen.1]; simp only; omega)⟩
        have f0 := ir_cell hD.out.fnd hdk
        by_cases hneg : dk < 0
        · have SK := hid (hS.out.skip hdk hneg)
          as_aux_lemma =>
            go_wp2_with fail
            exact ⟨⟨g, k + 1, F, rfl, by simp, by omega, SK, hD⟩, by simp [intOf]; omega⟩
        have h0k : 0 ≤ dk := by omega
        obtain ⟨_, hdd, ⟨n, hr⟩, _⟩ := (hS.out.seen.2.2 k dk hdk).resolve_left (by omega)
        simp only at hdd
        obtain ⟨x, hxk⟩ : ∃ x, is[k]? = some x := ⟨_, List.getElem?_eq_getElem hkl⟩
        obtain ⟨o, a, bb⟩ := x
        have HI1 := hid (insIn_on HI.out (hD.out.low.mono hB))
        obtain ⟨ib, off, hia, hib, x0, x1, x2⟩ := insIn_at HI1.out hxk
        subst hia
        simp only at x0 x1 x2
        have hsz : w.heap.size + 1 < wc.heap.size := blk_lt hD.out.fnd
        have hib1 : ib < wc.heap.size := by omega
        have EFX := hid (EF.out o a bb)
        have hE := effI_bound o a
        have hpop := pop_at hxk
        simp only at hpop
        have NXA := hid (fun (i : Nat) (t : Int) (h : (tgL is k)[i]? = some t) => nx_at (d := dk) hxk h)
        have KT := hid (fun (t : Int) (h : (tgL is k)[1]? = some t) => keep_two hxk h)
        simp only at NXA KT
        generalize effI o a = E at *
        obtain ⟨P, U⟩ := E
        simp only at hE hpop
        have hpopk := hid hpop
        clear hpop hneg
        go_wp2_with fail
        refine (EFX.out _).mono ?_
        rintro e w2' ⟨rfl, b2⟩
        have D2 := hid (hD.out.on b2)
        clear b2 x0 x1 x2 hD c4 f0 hib1 hsz HI1
        have f0 := ir_cell D2.out.fnd hdk
        have c3 : w2'.cell? ⟨w.heap.size, 3, none⟩ = some (.int .i64 d) := blk_cellZ D2.out.box 3 rfl
        by_cases hlf : dk < P
        · have NO := hid (no_pop (c := ⟨p, l, s, d, is⟩) hr (by simp only; have := hpopk.out; omega))
          have LW := hid D2.out.low
          as_aux_lemma =>
            go_upto_region 16 with fail
            refine wp_region_held_drew (S := fun aZ => aZ.cell? ⟨w.heap.size + 1, k, none⟩ = some (.int .i64 dk)) (by kernel_rfl) ?_ (fun hHeld => ?_)
            · go_simp
            refine tkk 0 ?_
            refine tkk 1 ?_
            refine tkk 2 ?_
            refine tkk 3 ?_
            refine tkk 4 ?_
            refine tk 5 (v := .bool true) ?_ ?_
            · (intro w hSw; go_simp <;> (first | omega | (simp; omega)))
            refine tkk 6 ?_
            refine tks 7 ?_
            refine tks 8 ?_
            refine tks 9 ?_
            refine tks 10 ?_
            refine tks 11 ?_
            refine tks 12 ?_
            refine tks 13 ?_
            refine tkk 14 ?_
            refine wpAnyH_done (by kernel_rfl) ?_ _
            go_wp2_with fail
            go_ret2
            exact ⟨.inr ⟨rfl, NO.out⟩, by first | exact LW.out | exact LW.out.drew⟩
        have hlf' : 0 ≤ dk - P := by omega
        have hlf2 : dk - P ≤ 64 := by omega
        go_upto_region 16 with fail
        refine wp_region_held_drew (S := fun aZ => aZ.cell? ⟨w.heap.size + 1, k, none⟩ = some (.int .i64 dk) ∧ aZ.cell? ⟨w.heap.size, 3, none⟩ = some (.int .i64 d)) (by kernel_rfl) ?_ (fun hHeld => ?_)
        · (refine ⟨?_, ?_⟩ <;> go_simp)
        refine tkk 0 ?_
        refine tkk 1 ?_
        refine tkk 2 ?_
        refine tkk 3 ?_
        refine tkk 4 ?_
        refine tk 5 (v := .bool false) ?_ ?_
        · (intro w hSw; go_simp <;> (first | omega | (simp; omega)))
        refine tkk 6 ?_
        refine tkk 7 ?_
        refine tkk 8 ?_
        refine tkk 9 ?_
        refine tkk 10 ?_
        refine tkk 11 ?_
        refine tkk 12 ?_
        refine tk 13 (v := .bool false) ?_ ?_
        · (intro w hSw; go_simp <;> (first | omega | (simp; omega)))
        refine tkk 14 ?_
        refine wpAnyH_done (by kernel_rfl) ?_ _
        clear f0 c3
        replace D2 := hid (D2.out.on (show Below w2'.heap.size w2' _ from (Below.refl w2'.heap.size w2').drew))
        generalize hW5 : w2'.drew = w5 at *
        clear hW5 hHeld
        have HI5 := hid (insIn_on HI.out (D2.out.low.mono hB))
        have CELLS := hid (fun (F : List Int) (W : World) (h : DR w w.heap.size #[.int .i64 p, .int .i64 l, .int .i64 s, .int .i64 d, .slice (some ⟨ib, off, none⟩) is.length ic] F W) => (show W.cell? ⟨w.heap.size, 0, none⟩ = some (.int .i64 p) ∧ W.cell? ⟨w.heap.size, 1, none⟩ = some (.int .i64 l) ∧ W.cell? ⟨w.heap.size, 2, none⟩ = some (.int .i64 s) ∧ W.cell? ⟨w.heap.size, 3, none⟩ = some (.int .i64 d) ∧ W.cell? ⟨w.heap.size, 4, none⟩ = some (.slice (some ⟨ib, off, none⟩) is.length ic) from ⟨blk_cellZ h.box 0 rfl, blk_cellZ h.box 1 rfl, blk_cellZ h.box 2 rfl, blk_cellZ h.box 3 rfl, blk_cellZ h.box 4 rfl⟩))
        obtain ⟨c0, c1, c2, c3, c4⟩ := CELLS.out _ _ D2.out
        go_wp2_with fail
        refine (TG.out _ (by have := D2.out.low.size; omega) HI5.out _).mono ?_
        rintro e w6 ⟨v6, rfl, g6, b6⟩
        rw [tgT_nat] at g6
        have D6 := hid (D2.out.on b6)
        have K6 := hid (TgN.beside (g := w.heap.size) (tv := .slice none 0 0) g6 (by have := blk_lt D2.out.fnd; omega) (fun b' hb' => by cases hb'))
        clear g6 b6 c0 c1 c2 c3 c4 D2 HI5
        have GE := hid (fun (i : Nat) (t : Int) (h : (tgL is k)[i]? = some t) => tg_ge hxk (HA.out k _ hxk) h)
        have M6 := hid (show Mw ⟨p, l, s, d, is⟩ N k dk 0 g F from ⟨hS.out, ⟨by simp only; have := hpopk.out; omega, fun i _ _ hi => absurd hi (Nat.not_lt_zero _)⟩, hdk⟩)
        have DN := hid (fun (g : Bool) (F : List Int) (h : Mw ⟨p, l, s, d, is⟩ N k dk (tgL is k).length g F) => h.done)
        have hfew := tg_few (is := is) (k := k)
        generalize tgL is k = tl at *
        obtain ⟨ta, rfl⟩ := K6.out.shape
        clear hS hdk
        go_wp2_with fail
        go_loopw [6, 12] (fun gV iV wr => ∃ (g : Bool) (i : Nat) (F : List Int), gV = .bool g ∧ iV = .int .i64 i ∧ i ≤ tl.length ∧ Hid (Mw ⟨p, l, s, d, is⟩ N k dk i g F) ∧ Hid (DR w w.heap.size #[.int .i64 p, .int .i64 l, .int .i64 s, .int .i64 d, .slice (some ⟨ib, off, none⟩) is.length ic] F wr) ∧ Hid (TgK w.heap.size (.slice none 0 0) (.slice ta tl.length tl.length) tl wr)) (fun _ iV _ => tl.length - (intOf iV).toNat)
        case atStart => exact ⟨g, 0, F, rfl, rfl, by omega, M6, D6, K6⟩
        case round =>
          clear M6 D6 K6
          obtain ⟨g, i, F, rfl, rfl, hi, hM, hD, hK⟩ := hrel
          rename World => wz
          by_cases hil : i < tl.length
          rotate_left 1
          · have hie : i = tl.length := by omega
            subst hie
            have SN := hid (DN.out _ _ hM.out)
            as_aux_lemma =>
              go_wp2_with fail
              exact ⟨⟨g, k + 1, F, rfl, by simp, by omega, SN, hD⟩, by simp [intOf]; omega⟩
          have hil' : (i : Int) < (tl.length : Int) := by omega
          obtain ⟨t, htt⟩ : ∃ t, tl[i]? = some t := ⟨_, List.getElem?_eq_getElem hil⟩
          obtain ⟨m, rfl⟩ : ∃ m : Nat, t = (m : Int) := ⟨t.toNat, by have := GE.out _ _ htt; omega⟩
          obtain ⟨tb, hta, t0⟩ := hK.out.at htt
          subst hta
          obtain ⟨c0, c1, c2, c3, c4⟩ := CELLS.out _ _ hD.out
          have LW := hid hD.out.low
          have f0 := ir_cell hD.out.fnd hM.out.here
          have HI3 := hid (insIn_on HI.out (hD.out.low.mono hB))
          obtain ⟨ib', off', he, hib', x0, x1, x2⟩ := insIn_at HI3.out hxk
          obtain ⟨rfl, rfl⟩ : ib' = ib ∧ off' = off := by
            injection he with he
            injection he with he1 he2
            exact ⟨he1.symm, he2.symm⟩
          simp only at x0
          clear x1 x2 he c0 c1 c2 HI3
          have KT1 := hid (show decide (i = 1) = true → decide (23 < o) = keepB o from fun h1 => KT.out (m : Int) (by rw [← of_decide_eq_true h1]; exact htt))
          have HX := hid (NXA.out _ _ htt)
          have hK01 : (0 : Int) ≤ (if (decide (i = 1) && keepB o) = true then 1 else 0) ∧ (if (decide (i = 1) && keepB o) = true then 1 else 0) ≤ (1 : Int) := by split <;> decide
          go_upto_region 23 with fail
          go_cut [101] (fun v wx => v = .bool (decide (i = 1) && keepB o) ∧ wx = wz)
          case first =>
            by_cases hi1 : i = 1
            · have b0 : ((i : Int) == 1) = true := by rw [hi1]; rfl
              have hd1 : decide (i = 1) = true := by rw [hi1]; rfl
              have HH := hid (show (decide (i = 1) && keepB o) = decide (23 < o) by rw [hd1, KT1.out hd1]; rfl)
              clear hi1
              by_cases h23 : 23 < o
              · have HT := hid (HH.out.trans (decide_eq_true h23))
                go_wp2_with fail
                go_meet
                exact ⟨by rw [HT.out], rfl⟩
              · have HT := hid (HH.out.trans (decide_eq_false h23))
                go_wp2_with fail
                go_meet
                exact ⟨by rw [HT.out], rfl⟩
            · have b0 : ((i : Int) == 1) = false := beq_eq_false_iff_ne.2 (by omega)
              have hd1 : decide (i = 1) = false := decide_eq_false hi1
              clear hi1
              go_wp2_with fail
              go_meet
              exact ⟨by rw [hd1]; rfl, rfl⟩
          case rest =>
            obtain ⟨rfl, rfl⟩ := hcut
            rename World => wz
            generalize (decide (i = 1) && keepB o) = fl at *
            go_upto_if 101 with fail
            go_cut [13] (fun v wx => v = .int .i64 (dk - P + U + (if fl = true then 1 else 0)) ∧ wx = wz)
            case first =>
              cases fl with
              | true =>
                go_wp2_with fail
                go_meet
                exact ⟨by first | rfl | simp, rfl⟩
              | false =>
                go_wp2_with fail
                go_meet
                exact ⟨by first | rfl | simp, rfl⟩
            case rest =>
              obtain ⟨rfl, rfl⟩ := hcut
              rename World => wz
              have he0 : 0 ≤ dk - P + U + (if fl = true then 1 else 0) := by omega
              have he1 : dk - P + U + (if fl = true then 1 else 0) ≤ 70 := by omega
              generalize dk - P + U + (if fl = true then 1 else 0) = z at *
              clear hK01 KT1 x0
              by_cases hbig : is.length ≤ m
              · have hbig' : (is.length : Int) ≤ (m : Int) := by omega
                have NO := hid (no_room (c := ⟨p, l, s, d, is⟩) hr (List.mem_of_getElem? HX.out) (.inl hbig'))
                as_aux_lemma =>
                  go_upto_region 25 with fail
                  refine wp_region_held_drew (S := fun aZ => aZ.cell? ⟨tb, i, none⟩ = some (.int .i64 (m : Int)) ∧ aZ.cell? ⟨w.heap.size, 4, none⟩ = some (.slice (some ⟨ib', off', none⟩) is.length ic)) (by kernel_rfl) ?_ (fun hHeld => ?_)
                  · (refine ⟨?_, ?_⟩ <;> go_simp)
                  refine tkk 0 ?_
                  refine tkk 1 ?_
                  refine tkk 2 ?_
                  refine tkk 3 ?_
                  refine tkk 4 ?_
                  refine tkk 5 ?_
                  refine tkk 6 ?_
                  refine tk 7 (v := .bool true) ?_ ?_
                  · (intro w hSw; go_simp <;> (first | omega | (simp; omega)))
                  refine tkk 8 ?_
                  refine tks 9 ?_
                  refine tks 10 ?_
                  refine tks 11 ?_
                  refine tks 12 ?_
                  refine tkk 13 ?_
                  refine tkk 14 ?_
                  refine tks 15 ?_
                  refine tks 16 ?_
                  refine tks 17 ?_
                  refine tks 18 ?_
                  refine tks 19 ?_
                  refine tks 20 ?_
                  refine tks 21 ?_
                  refine tks 22 ?_
                  refine tks 23 ?_
                  refine tks 24 ?_
                  refine tks 25 ?_
                  refine tks 26 ?_
                  refine tks 27 ?_
                  refine tks 28 ?_
                  refine tks 29 ?_
                  refine tks 30 ?_
                  refine tks 31 ?_
                  refine tks 32 ?_
                  refine tks 33 ?_
                  refine tkk 34 ?_
                  refine wpAnyH_done (by kernel_rfl) ?_ _
                  go_wp2_with fail
                  go_ret2
                  exact ⟨.inr ⟨rfl, NO.out⟩, by first | exact LW.out | exact LW.out.drew⟩
              have hbig' : (m : Int) < (is.length : Int) := by omega
              obtain ⟨f, hf⟩ : ∃ f, F[m]? = some f := ⟨_, List.getElem?_eq_getElem (by rw [hM.out.sw.seen.1]; simp only; omega)⟩
              have m0 := ir_cell hD.out.fnd hf
              have m1 := ir_free hD.out.fnd m
              by_cases hdeep : d < z
              · have NO := hid (no_room (c := ⟨p, l, s, d, is⟩) hr (List.mem_of_getElem? HX.out) (.inr hdeep))
                as_aux_lemma =>
                  go_upto_region 25 with fail
                  refine wp_region_held_drew (S := fun aZ => aZ.cell? ⟨tb, i, none⟩ = some (.int .i64 (m : Int)) ∧ aZ.cell? ⟨w.heap.size, 4, none⟩ = some (.slice (some ⟨ib', off', none⟩) is.length ic) ∧ aZ.cell? ⟨w.heap.size, 3, none⟩ = some (.int .i64 d)) (by kernel_rfl) ?_ (fun hHeld => ?_)
                  · (refine ⟨?_, ?_, ?_⟩ <;> go_simp)
                  refine tkk 0 ?_
                  refine tkk 1 ?_
                  refine tkk 2 ?_
                  refine tkk 3 ?_
                  refine tkk 4 ?_
                  refine tkk 5 ?_
                  refine tkk 6 ?_
                  refine tk 7 (v := .bool false) ?_ ?_
                  · (intro w hSw; go_simp <;> (first | omega | (simp; omega)))
                  refine tkk 8 ?_
                  refine tkk 9 ?_
                  refine tkk 10 ?_
                  refine tkk 11 ?_
                  refine tk 12 (v := .bool true) ?_ ?_
                  · (intro w hSw; go_simp <;> (first | omega | (simp; omega)))
                  refine tkk 13 ?_
                  refine tkk 14 ?_
                  refine tks 15 ?_
                  refine tks 16 ?_
                  refine tks 17 ?_
                  refine tks 18 ?_
                  refine tks 19 ?_
                  refine tks 20 ?_
                  refine tks 21 ?_
                  refine tks 22 ?_
                  refine tks 23 ?_
                  refine tks 24 ?_
                  refine tks 25 ?_
                  refine tks 26 ?_
                  refine tks 27 ?_
                  refine tks 28 ?_
                  refine tks 29 ?_
                  refine tks 30 ?_
                  refine tks 31 ?_
                  refine tks 32 ?_
                  refine tks 33 ?_
                  refine tkk 34 ?_
                  refine wpAnyH_done (by kernel_rfl) ?_ _
                  go_wp2_with fail
                  go_ret2
                  exact ⟨.inr ⟨rfl, NO.out⟩, by first | exact LW.out | exact LW.out.drew⟩
              have hdeep' : z ≤ d := by omega
              by_cases hf1 : f = -1
              · subst hf1
                have M2 := hid (hM.out.push hr h0k hf HX.out he0 hdeep')
                have D2 := hid ((hD.out.on (show Below wz.heap.size wz _ from (Below.refl wz.heap.size wz).drew)).set m z)
                have K2 := hid ((hK.out.on (show Below wz.heap.size wz _ from (Below.refl wz.heap.size wz).drew)).set (j := m) (u := .int .i64 z))
                have DD := hid (hD.out.on (show Below wz.heap.size wz _ from (Below.refl wz.heap.size wz).drew))
                have m0d := ir_cell DD.out.fnd hf
                have m1d := ir_free DD.out.fnd m
                obtain ⟨_, hta, t0d⟩ := (hK.out.on (show Below wz.heap.size wz _ from (Below.refl wz.heap.size wz).drew)).at htt
                injection hta with hta
                injection hta with hta
                subst hta
                as_aux_lemma =>
                  go_upto_region 25 with fail
                  refine wp_region_held_drew (S := fun aZ => aZ.cell? ⟨tb, i, none⟩ = some (.int .i64 (m : Int)) ∧ aZ.cell? ⟨w.heap.size, 4, none⟩ = some (.slice (some ⟨ib', off', none⟩) is.length ic) ∧ aZ.cell? ⟨w.heap.size, 3, none⟩ = some (.int .i64 d) ∧ aZ.cell? ⟨w.heap.size + 1, m, none⟩ = some (.int .i64 (-1))) (by kernel_rfl) ?_ (fun hHeld => ?_)
                  · (refine ⟨?_, ?_, ?_, ?_⟩ <;> go_simp)
                  refine tkk 0 ?_
                  refine tkk 1 ?_
                  refine tkk 2 ?_
                  refine tkk 3 ?_
                  refine tkk 4 ?_
                  refine tkk 5 ?_
                  refine tkk 6 ?_
                  refine tk 7 (v := .bool false) ?_ ?_
                  · (intro w hSw; go_simp <;> (first | omega | (simp; omega)))
                  refine tkk 8 ?_
                  refine tkk 9 ?_
                  refine tkk 10 ?_
                  refine tkk 11 ?_
                  refine tk 12 (v := .bool false) ?_ ?_
                  · (intro w hSw; go_simp <;> (first | omega | (simp; omega)))
                  refine tkk 13 ?_
                  refine tkk 14 ?_
                  refine tkk 15 ?_
                  refine tkk 16 ?_
                  refine tkk 17 ?_
                  refine tkk 18 ?_
                  refine tkk 19 ?_
                  refine tkk 20 ?_
                  refine tkk 21 ?_
                  refine tkk 22 ?_
                  refine tkk 23 ?_
                  refine tks 24 ?_
                  refine tks 25 ?_
                  refine tks 26 ?_
                  refine tks 27 ?_
                  refine tks 28 ?_
                  refine tks 29 ?_
                  refine tks 30 ?_
                  refine tks 31 ?_
                  refine tks 32 ?_
                  refine tkk 33 ?_
                  refine tkk 34 ?_
                  refine wpAnyH_done (by kernel_rfl) ?_ _
                  generalize hWd : wz.drew = wd at *
                  clear hWd hHeld
                  go_wp2_with fail
                  exact ⟨⟨true, i + 1, F.set m z, rfl, by simp, by omega, M2, D2, K2⟩, by simp [intOf]; omega⟩
              by_cases hfe : f = z
              · subst hfe
                have M2 := hid (hM.out.same hf HX.out hdeep')
                have D2 := hid ((hD.out.on (show Below wz.heap.size wz _ from (Below.refl wz.heap.size wz).drew)).set m f)
                have K2 := hid ((hK.out.on (show Below wz.heap.size wz _ from (Below.refl wz.heap.size wz).drew)).set (j := m) (u := .int .i64 f))
                have DD := hid (hD.out.on (show Below wz.heap.size wz _ from (Below.refl wz.heap.size wz).drew))
                have m0d := ir_cell DD.out.fnd hf
                have m1d := ir_free DD.out.fnd m
                obtain ⟨_, hta, t0d⟩ := (hK.out.on (show Below wz.heap.size wz _ from (Below.refl wz.heap.size wz).drew)).at htt
                injection hta with hta
                injection hta with hta
                subst hta
                as_aux_lemma =>
                  go_upto_region 25 with fail
                  refine wp_region_held_drew (S := fun aZ => aZ.cell? ⟨tb, i, none⟩ = some (.int .i64 (m : Int)) ∧ aZ.cell? ⟨w.heap.size, 4, none⟩ = some (.slice (some ⟨ib', off', none⟩) is.length ic) ∧ aZ.cell? ⟨w.heap.size, 3, none⟩ = some (.int .i64 d) ∧ aZ.cell? ⟨w.heap.size + 1, m, none⟩ = some (.int .i64 f)) (by kernel_rfl) ?_ (fun hHeld => ?_)
                  · (refine ⟨?_, ?_, ?_, ?_⟩ <;> go_simp)
                  refine tkk 0 ?_
                  refine tkk 1 ?_
                  refine tkk 2 ?_
                  refine tkk 3 ?_
                  refine tkk 4 ?_
                  refine tkk 5 ?_
                  refine tkk 6 ?_
                  refine tk 7 (v := .bool false) ?_ ?_
                  · (intro w hSw; go_simp <;> (first | omega | (simp; omega)))
                  refine tkk 8 ?_
                  refine tkk 9 ?_
                  refine tkk 10 ?_
                  refine tkk 11 ?_
                  refine tk 12 (v := .bool false) ?_ ?_
                  · (intro w hSw; go_simp <;> (first | omega | (simp; omega)))
                  refine tkk 13 ?_
                  refine tkk 14 ?_
                  refine tkk 15 ?_
                  refine tkk 16 ?_
                  refine tkk 17 ?_
                  refine tkk 18 ?_
                  refine tkk 19 ?_
                  refine tkk 20 ?_
                  refine tkk 21 ?_
                  refine tk 22 (v := .bool true) ?_ ?_
                  · (intro w hSw; go_simp <;> (first | omega | (simp; omega)))
                  refine tkk 23 ?_
                  refine tkk 24 ?_
                  refine tkk 25 ?_
                  refine tkk 26 ?_
                  refine tkk 27 ?_
                  refine tkk 28 ?_
                  refine tkk 29 ?_
                  refine tkk 30 ?_
                  refine tkk 31 ?_
                  refine tk 32 (v := .bool false) ?_ ?_
                  · (intro w hSw; go_simp <;> (first | with_reducible rfl | simp))
                  refine tkk 33 ?_
                  refine tkk 34 ?_
                  refine wpAnyH_done (by kernel_rfl) ?_ _
                  generalize hWd : wz.drew = wd at *
                  clear hWd hHeld
                  go_wp2_with fail
                  exact ⟨⟨g, i + 1, F.set m f, rfl, by simp, by omega, M2, D2, K2⟩, by simp [intOf]; omega⟩
              have NO := hid (hM.out.two hr hf hf1 HX.out hfe)
              have hf0 : 0 ≤ f := by
                rcases hM.out.sw.seen.2.2 m f hf with h1 | h1
                · exact absurd h1 hf1
                · exact h1.1
              as_aux_lemma =>
                go_upto_region 25 with fail
                refine wp_region_held_drew (S := fun aZ => aZ.cell? ⟨tb, i, none⟩ = some (.int .i64 (m : Int)) ∧ aZ.cell? ⟨w.heap.size, 4, none⟩ = some (.slice (some ⟨ib', off', none⟩) is.length ic) ∧ aZ.cell? ⟨w.heap.size, 3, none⟩ = some (.int .i64 d) ∧ aZ.cell? ⟨w.heap.size + 1, m, none⟩ = some (.int .i64 f)) (by kernel_rfl) ?_ (fun hHeld => ?_)
                · (refine ⟨?_, ?_, ?_, ?_⟩ <;> go_simp)
                refine tkk 0 ?_
                refine tkk 1 ?_
                refine tkk 2 ?_
                refine tkk 3 ?_
                refine tkk 4 ?_
                refine tkk 5 ?_
                refine tkk 6 ?_
                refine tk 7 (v := .bool false) ?_ ?_
                · (intro w hSw; go_simp <;> (first | omega | (simp; omega)))
                refine tkk 8 ?_
                refine tkk 9 ?_
                refine tkk 10 ?_
                refine tkk 11 ?_
                refine tk 12 (v := .bool false) ?_ ?_
                · (intro w hSw; go_simp <;> (first | omega | (simp; omega)))
                refine tkk 13 ?_
                refine tkk 14 ?_
                refine tkk 15 ?_
                refine tkk 16 ?_
                refine tkk 17 ?_
                refine tkk 18 ?_
                refine tkk 19 ?_
                refine tkk 20 ?_
                refine tkk 21 ?_
                refine tk 22 (v := .bool true) ?_ ?_
                · (intro w hSw; go_simp <;> (first | omega | (simp; omega)))
                refine tkk 23 ?_
                refine tkk 24 ?_
                refine tkk 25 ?_
                refine tkk 26 ?_
                refine tkk 27 ?_
                refine tkk 28 ?_
                refine tkk 29 ?_
                refine tkk 30 ?_
                refine tkk 31 ?_
                refine tk 32 (v := .bool true) ?_ ?_
                · (intro w hSw; go_simp <;> (first | with_reducible rfl | (simp; exact hfe) | (simpa using hfe)))
                refine tkk 33 ?_
                refine tkk 34 ?_
                refine wpAnyH_done (by kernel_rfl) ?_ _
                go_wp2_with fail
                go_ret2
                exact ⟨.inr ⟨rfl, NO.out⟩, by first | exact LW.out | exact LW.out.drew⟩

end Go.Proofs.YtnojlfdojmkonaaGreatDoor
