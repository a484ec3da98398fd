/- Units, and the document's word on whether two are alike. -/
import Derived.Test.YtmihckhflbepjaaDoorTk
import Derived.Test.YtmihckhflbepjaaDoorRefSame
import Derived.Test.YtmihckhflbepjaaDoorScDecl
import Derived.Deep.RegionHeld3
namespace Go.Proofs.YtmihckhflbepjaaDoor
set_option linter.unusedSimpArgs false
open Go.RowKit

/-- a function: parameters, locals, body -/
abbrev Fq := Int × Int × List Nd
def FnAt (B b o : Nat) (f : Fq) (w : World) : Prop := ∃ kv, w.cell? ⟨b, o, none⟩ = some (.int .i64 f.1) ∧ w.cell? ⟨b, o + 1, none⟩ = some (.int .i64 f.2.1) ∧ w.cell? ⟨b, o + 2, none⟩ = some kv ∧ KidsIn B w kv f.2.2
/-- functions of a unit, all of it in blocks below B -/
def FnsIn (B : Nat) (w : World) (v : Value) (fs : List Fq) : Prop :=
  (∃ ao cap, v = .slice ao 0 cap ∧ fs = []) ∨ ∃ b off cap, v = .slice (some ⟨b, off, none⟩) fs.length cap ∧ b < B ∧ (∀ i f, fs[i]? = some f → FnAt B b (off + i * 3) f w) ∧ fs.length ≤ cap
theorem fnAt_on {B b o : Nat} {f : Fq} {a c : World} (h : FnAt B b o f a) (hb : b < B) (q : Below B a c) : FnAt B b o f c := by
  obtain ⟨kv, h1, h2, h3, h4⟩ := h
  exact ⟨kv, cell_keep q hb h1, cell_keep q hb h2, cell_keep q hb h3, kidsIn_on q h4⟩
theorem fnsIn_on {B : Nat} {v : Value} {fs : List Fq} {a c : World} (h : FnsIn B a v fs) (q : Below B a c) : FnsIn B c v fs := by
  rcases h with h | ⟨b, off, cap, h1, h2, h3, h4⟩
  · exact .inl h
  · exact .inr ⟨b, off, cap, h1, h2, fun i f hi => fnAt_on (h3 i f hi) h2 q, h4⟩
theorem fnsIn_shape {B : Nat} {v : Value} {fs : List Fq} {w : World} (h : FnsIn B w v fs) : ∃ ao cap, v = .slice ao fs.length cap := by
  rcases h with ⟨ao, cap, e, rfl⟩ | ⟨b, off, cap, e, _⟩
  · exact ⟨ao, cap, e⟩
  · exact ⟨_, cap, e⟩
theorem fnsIn_at {B : Nat} {ao : Option Addr} {cap i : Nat} {fs : List Fq} {f : Fq} {w : World} (h : FnsIn B w (.slice ao fs.length cap) fs) (hi : fs[i]? = some f) : ∃ b off, ao = some ⟨b, off, none⟩ ∧ b < B ∧ FnAt B b (off + i * 3) f w := by
  rcases h with ⟨ao', cap', e, rfl⟩ | ⟨b, off, cap', e, hb, h, _⟩
  · simp at hi
  · injection e with e1
    subst e1
    exact ⟨b, off, rfl, hb, h i f hi⟩
def sameF (a b : Fq) : Bool := (a.1 == b.1) && ((a.2.1 == b.2.1) && sameL a.2.2 b.2.2)
def sameFs : List Fq → List Fq → Bool
  | [], [] => true
  | a :: r, b :: q => sameF a b && sameFs r q
  | _, _ => false
def sameU (G : Int) (fs : List Fq) (G' : Int) (fs' : List Fq) : Bool := (G == G') && sameFs fs fs'
theorem sameFs_len : ∀ {l m : List Fq}, sameFs l m = true → l.length = m.length
  | [], [], _ => rfl
  | a :: l, b :: m, h => by
    unfold sameFs at h
    rw [Bool.and_eq_true] at h
    have := sameFs_len h.2
    simp [this]
  | [], b :: m, h => by simp [sameFs] at h
  | a :: l, [], h => by simp [sameFs] at h
theorem sameFs_all : ∀ {l m : List Fq}, l.length = m.length → (∀ (i : Nat) a b, l[i]? = some a → m[i]? = some b → sameF a b = true) → sameFs l m = true
  | [], [], _, _ => rfl
  | a :: l, b :: m, h, ha => by
    unfold sameFs
    rw [ha 0 a b rfl rfl, sameFs_all (by simpa using h) (fun i x y hx hy => ha (i + 1) x y (by simpa using hx) (by simpa using hy))]
    rfl
  | [], b :: m, h, _ => by simp at h
  | a :: l, [], h, _ => by simp at h
theorem sameFs_no : ∀ {l m : List Fq} {i : Nat} {a b : Fq}, l[i]? = some a → m[i]? = some b → sameF a b = false → sameFs l m = false
  | [], _, i, a, b, h, _, _ => by simp at h
  | x :: l, [], i, a, b, _, h, _ => by simp at h
  | x :: l, y :: m, 0, a, b, h1, h2, h => by
    simp at h1 h2
    subst h1 h2
    unfold sameFs
    rw [h]; rfl
  | x :: l, y :: m, i + 1, a, b, h1, h2, h => by
    unfold sameFs
    rw [sameFs_no (l := l) (m := m) (i := i) (by simpa using h1) (by simpa using h2) h, Bool.and_false]
theorem sameU_all : ∀ {l m : List Nd}, l.length = m.length → (∀ (i : Nat) a b, l[i]? = some a → m[i]? = some b → sameN a b = true) → sameL l m = true
  | [], [], _, _ => by rw [sameL]
  | a :: l, b :: m, h, ha => by
    rw [sameL, ha 0 a b rfl rfl, sameU_all (by simpa using h) (fun i x y hx hy => ha (i + 1) x y (by simpa using hx) (by simpa using hy))]
    rfl
  | [], b :: m, h, _ => by simp at h
  | a :: l, [], h, _ => by simp at h
theorem sameU_no : ∀ {l m : List Nd} {i : Nat} {a b : Nd}, l[i]? = some a → m[i]? = some b → sameN a b = false → sameL l m = false
  | [], _, i, a, b, h, _, _ => by simp at h
  | x :: l, [], i, a, b, _, h, _ => by simp at h
  | x :: l, y :: m, 0, a, b, h1, h2, h => by
    simp at h1 h2
    subst h1 h2
    rw [sameL, h]; rfl
  | x :: l, y :: m, i + 1, a, b, h1, h2, h => by
    rw [sameL, sameU_no (l := l) (m := m) (i := i) (by simpa using h1) (by simpa using h2) h, Bool.and_false]
theorem sameL_len {l m : List Nd} (h : l.length ≠ m.length) : sameL l m = false := by
  cases hs : sameL l m with
  | false => rfl
  | true => exact absurd (sameL_length l m hs) h
theorem sameFs_lenF {l m : List Fq} (h : l.length ≠ m.length) : sameFs l m = false := by
  cases hs : sameFs l m with
  | false => rfl
  | true => exact absurd (sameFs_len hs) h
/-- no node is too great -/
def FineU (fs : List Fq) : Prop := fs.length ≤ 1000000 ∧ ∀ f ∈ fs, f.2.2.length ≤ 1000000 ∧ ∀ x ∈ f.2.2, smallN x = true ∧ countN x ≤ 1000000

theorem two_fns (wr : World) (x y : Array Value) : Blk wr.heap.size 45 x ((wr.alloc (.cells x 45)).alloc (.cells y 45)).drew ∧ Blk (wr.heap.size + 1) 45 y ((wr.alloc (.cells x 45)).alloc (.cells y 45)).drew ∧ Below wr.heap.size wr ((wr.alloc (.cells x 45)).alloc (.cells y 45)).drew := by
  have b2 := blk_new (wr.alloc (.cells x 45)) 45 y
  rw [World.size_alloc] at b2
  exact ⟨blk_on (blk_new wr 45 x) ((Below.refl _ _).alloc (Nat.le_refl _) (.cells y 45)).drew, b2, (((Below.refl _ _).alloc (Nat.le_refl _) _).alloc (by simp) _).drew⟩
set_option maxRecDepth 100000 in
set_option maxHeartbeats 8000000 in
theorem usame_calls (G G' : Int) (fv fv' : Value) (fs fs' : List Fq) (B : Nat) (w : World) (hB : B ≤ w.heap.size) (h1 : Hid (FnsIn B w fv fs)) (h2 : Hid (FnsIn B w fv' fs')) (hF : Hid (FineU fs)) :
    Calls Tryd.prog 11 #[.agg #[.int .i64 G, fv], .agg #[.int .i64 G', fv']] w fun e w' => e = .returned (.bool (sameU G fs G' fs')) ∧ Below w.heap.size w w' := by
  obtain ⟨fa, fc, rfl⟩ := fnsIn_shape h1.out
  obtain ⟨ga, gc, rfl⟩ := fnsIn_shape h2.out
  have A1 := (Below.refl w.heap.size w).alloc (Nat.le_refl _) (.cells #[.int .i64 G, .slice fa fs.length fc] 30)
  have A2 := A1.alloc (by simp) (.cells #[.int .i64 G', .slice ga fs'.length gc] 30)
  have x1 := blk_on (blk_new w 30 #[.int .i64 G, .slice fa fs.length fc]) ((Below.refl _ _).alloc (Nat.le_refl _) (.cells #[.int .i64 G', .slice ga fs'.length gc] 30))
  have x2 := blk_new (w.alloc (.cells #[.int .i64 G, .slice fa fs.length fc] 30)) 30 #[.int .i64 G', .slice ga fs'.length gc]
  rw [World.size_alloc] at x2
  have X1 := hid x1
  have X2 := hid x2
  have HA := hid A2
  have hfl := hF.out.1
  clear A1 A2 x1 x2
  by_cases hG : G = G'
  · by_cases hL : fs.length = fs'.length
    · subst hG
      have HLn := hid hL
      have hfl' : fs'.length ≤ 1000000 := by omega
      rw [hL] at X1 ⊢
      rw [hL] at HA X2
      have hdG : (G != G) = false := by simp
      generalize hW : (w.alloc (.cells #[.int .i64 G, .slice fa fs'.length fc] 30)).alloc (.cells #[.int .i64 G, .slice ga fs'.length gc] 30) = w2 at *
      have c1 : w2.cell? ⟨w.heap.size, 0, none⟩ = some (.int .i64 G) := by rw [blk_cell X1.out]; rfl
      have c2 : w2.cell? ⟨w.heap.size + 1, 0, none⟩ = some (.int .i64 G) := by rw [blk_cell X2.out]; rfl
      have c3 : w2.cell? ⟨w.heap.size, 1, none⟩ = some (.slice fa fs'.length fc) := by rw [blk_cell X1.out]; rfl
      have c4 : w2.cell? ⟨w.heap.size + 1, 1, none⟩ = some (.slice ga fs'.length gc) := by rw [blk_cell X2.out]; rfl
      go_enter Tryd.func11, Tryd.ntmps11
      go_wp2_with fail
      clear c1 c2 c3 c4 hL
      have hz2 : w.heap.size + 1 < w2.heap.size := blk_lt X2.out
      have H1 := hid (fnsIn_on h1.out (HA.out.mono hB))
      have H2 := hid (fnsIn_on h2.out (HA.out.mono hB))
      rw [HLn.out] at H1
      have HU := hid (show ∀ q, sameFs fs fs' = q → sameU G fs G fs' = q from fun q hq => by unfold sameU; rw [hq]; simp)
      clear h1 h2 hW
      go_loopw [5] (fun i wr => ∃ j : Nat, j ≤ fs'.length ∧ i = .int .i64 j ∧ Hid (∀ i a b, i < j → fs[i]? = some a → fs'[i]? = some b → sameF a b = true) ∧ Hid (Below w2.heap.size w2 wr)) (fun i _ => fs'.length - (intOf i).toNat)
      case atStart => exact ⟨0, by omega, rfl, hid (fun i a b hi => absurd hi (Nat.not_lt_zero _)), hid (Below.refl _ _)⟩
      case round =>
        obtain ⟨j, hj, rfl, hA, hBw⟩ := hrel
        have hsz := hBw.out.size
        have c3 : wr.cell? ⟨w.heap.size, 1, none⟩ = some (.slice fa fs'.length fc) := by rw [blk_cell (blk_on X1.out hBw.out)]; rfl
        have c4 : wr.cell? ⟨w.heap.size + 1, 1, none⟩ = some (.slice ga fs'.length gc) := by rw [blk_cell (blk_on X2.out hBw.out)]; rfl
        by_cases hjl : j < fs'.length
        · obtain ⟨f', hf'⟩ : ∃ e, fs'[j]? = some e := ⟨fs'[j], List.getElem?_eq_getElem hjl⟩
          obtain ⟨f, hf⟩ : ∃ e, fs[j]? = some e := ⟨fs[j]'(by rw [HLn.out]; exact hjl), List.getElem?_eq_getElem (by rw [HLn.out]; exact hjl)⟩
          have hB2 := HA.out.size
          have q1 := fnsIn_on H1.out (hBw.out.mono (by omega))
          have q2 := fnsIn_on H2.out (hBw.out.mono (by omega))
          rw [← HLn.out] at q1
          obtain ⟨b, off, rfl, hb, kv, d1, d2, d3, hk⟩ := fnsIn_at q1 hf
          obtain ⟨b', off', rfl, hb', kv', d1', d2', d3', hk'⟩ := fnsIn_at q2 hf'
          have hfine := hF.out.2 f (List.mem_of_getElem? hf)
          obtain ⟨P, L, ks⟩ := f
          obtain ⟨P', L', ks'⟩ := f'
          simp only at d1 d2 hk d1' d2' hk' hfine
          obtain ⟨ka, kc, rfl, _⟩ := kidsIn_cases hk
          obtain ⟨ka', kc', rfl, _⟩ := kidsIn_cases hk'
          have HK := hid hk
          have HK' := hid hk'
          have HFI := hid hfine
          have HFJ := hid (And.intro hf hf')
          have hbr : b < wr.heap.size := by omega
          have hBr : B ≤ wr.heap.size := by omega
          have hbr' : b' < wr.heap.size := by omega
          have hw1 : w.heap.size < wr.heap.size := by omega
          have hw2 : w.heap.size + 1 < wr.heap.size := by omega
          have hlb := hfine.1
          clear hk hk' hfine hf hf' q1 q2
          have hS0 : wr.cell? ⟨w.heap.size, 1, none⟩ = some (.slice (some ⟨b, off, none⟩) fs'.length fc) ∧ wr.cell? ⟨w.heap.size + 1, 1, none⟩ = some (.slice (some ⟨b', off', none⟩) fs'.length gc) ∧ wr.cell? ⟨b, off + j * 3, none⟩ = some (.int .i64 P) ∧ wr.cell? ⟨b, off + j * 3 + 1, none⟩ = some (.int .i64 L) ∧ wr.cell? ⟨b, off + j * 3 + 2, none⟩ = some (.slice ka ks.length kc) ∧ wr.cell? ⟨b', off' + j * 3, none⟩ = some (.int .i64 P') ∧ wr.cell? ⟨b', off' + j * 3 + 1, none⟩ = some (.int .i64 L') ∧ wr.cell? ⟨b', off' + j * 3 + 2, none⟩ = some (.slice ka' ks'.length kc') := ⟨c3, c4, d1, d2, d3, d1', d2', d3'⟩
          go_wp2_with fail
          refine wp_region_held_drew (S := fun a => a.cell? ⟨w.heap.size, 1, none⟩ = some (.slice (some ⟨b, off, none⟩) fs'.length fc) ∧ a.cell? ⟨w.heap.size + 1, 1, none⟩ = some (.slice (some ⟨b', off', none⟩) fs'.length gc) ∧ a.cell? ⟨b, off + j * 3, none⟩ = some (.int .i64 P) ∧ a.cell? ⟨b, off + j * 3 + 1, none⟩ = some (.int .i64 L) ∧ a.cell? ⟨b, off + j * 3 + 2, none⟩ = some (.slice ka ks.length kc) ∧ a.cell? ⟨b', off' + j * 3, none⟩ = some (.int .i64 P') ∧ a.cell? ⟨b', off' + j * 3 + 1, none⟩ = some (.int .i64 L') ∧ a.cell? ⟨b', off' + j * 3 + 2, none⟩ = some (.slice ka' ks'.length kc')) (by kernel_rfl) hS0 (fun hHeld => ?_)
          refine tkk 0 ?_
          refine tkk 1 ?_
          refine tkk 2 ?_
          refine tkk 3 ?_
          refine tkk 4 ?_
          refine tkk 5 ?_
          refine tkk 6 ?_
          refine tkk 7 ?_
          refine tkk 8 ?_
          refine tkk 9 ?_
          refine wpAnyH_ready (rs := [10, 11]) (by kernel_rfl) (by simp) ?_
          refine AllReadyH.cons rfl (fun K hK => ?_) (AllReadyH.cons rfl (fun K hK => ?_) AllReadyH.nil)
          go_simp
          refine hK.out _ _ (by refine ⟨?_, ?_, ?_, ?_, ?_, ?_, ?_, ?_⟩ <;> go_simp) (fun _ => ?_)
          clear hK K
          refine rdy 11 (fun K hK => ?_)
          go_simp
          refine hK.out _ _ (by refine ⟨?_, ?_, ?_, ?_, ?_, ?_, ?_, ?_⟩ <;> go_simp) (fun _ => ?_)
          clear hK K
          refine rdy 12 (fun K hK => ?_)
          go_simp
          refine hK.out _ _ (by refine ⟨?_, ?_, ?_, ?_, ?_, ?_, ?_, ?_⟩ <;> go_simp) (fun _ => ?_)
          clear hK K
          refine rdy 13 (fun K hK => ?_)
          go_simp
          refine hK.out _ _ (by refine ⟨?_, ?_, ?_, ?_, ?_, ?_, ?_, ?_⟩ <;> go_simp) (fun _ => ?_)
          clear hK K
          have TW := two_fns wr #[.int .i64 P, .int .i64 L, .slice ka ks.length kc] #[.int .i64 P', .int .i64 L', .slice ka' ks'.length kc']
          have BX := hid TW.1
          have BY := hid TW.2.1
          have BW := hid (below_on hBw.out TW.2.2)
          have BQ := hid TW.2.2
          have hB3 : B ≤ ((wr.alloc (.cells #[.int .i64 P, .int .i64 L, .slice ka ks.length kc] 45)).alloc (.cells #[.int .i64 P', .int .i64 L', .slice ka' ks'.length kc'] 45)).drew.heap.size := Nat.le_trans hBr TW.2.2.size
          clear TW hHeld
          refine wpAnyH_done (by kernel_rfl) ?_ _
          generalize ((wr.alloc (.cells #[.int .i64 P, .int .i64 L, .slice ka ks.length kc] 45)).alloc (.cells #[.int .i64 P', .int .i64 L', .slice ka' ks'.length kc'] 45)).drew = w3 at *
          generalize wr.heap.size + 1 = gy at *
          generalize hgq : wr.heap.size = gx at *
          clear hgq
          rotate_left 1
          go_simp
          refine hK.out _ _ (by refine ⟨?_, ?_, ?_, ?_, ?_, ?_, ?_, ?_⟩ <;> go_simp) (fun _ => ?_)
          clear hK K
          refine rdy 10 (fun K hK => ?_)
          go_simp
          refine hK.out _ _ (by refine ⟨?_, ?_, ?_, ?_, ?_, ?_, ?_, ?_⟩ <;> go_simp) (fun _ => ?_)
          clear hK K
          refine rdy 12 (fun K hK => ?_)
          go_simp
          refine hK.out _ _ (by refine ⟨?_, ?_, ?_, ?_, ?_, ?_, ?_, ?_⟩ <;> go_simp) (fun _ => ?_)
          clear hK K
          refine rdy 13 (fun K hK => ?_)
          go_simp
          refine hK.out _ _ (by refine ⟨?_, ?_, ?_, ?_, ?_, ?_, ?_, ?_⟩ <;> go_simp) (fun _ => ?_)
          clear hK K
          have TW := two_fns wr #[.int .i64 P', .int .i64 L', .slice ka' ks'.length kc'] #[.int .i64 P, .int .i64 L, .slice ka ks.length kc]
          have BX := hid TW.2.1
          have BY := hid TW.1
          have BW := hid (below_on hBw.out TW.2.2)
          have BQ := hid TW.2.2
          have hB3 : B ≤ ((wr.alloc (.cells #[.int .i64 P', .int .i64 L', .slice ka' ks'.length kc'] 45)).alloc (.cells #[.int .i64 P, .int .i64 L, .slice ka ks.length kc] 45)).drew.heap.size := Nat.le_trans hBr TW.2.2.size
          clear TW hHeld
          refine wpAnyH_done (by kernel_rfl) ?_ _
          generalize ((wr.alloc (.cells #[.int .i64 P', .int .i64 L', .slice ka' ks'.length kc'] 45)).alloc (.cells #[.int .i64 P, .int .i64 L, .slice ka ks.length kc] 45)).drew = w3 at *
          generalize wr.heap.size + 1 = gx at *
          generalize hgq : wr.heap.size = gy at *
          clear hgq
          rotate_left 1
          all_goals
            have HK3 := hid (kidsIn_on (BQ.out.mono (by omega)) HK.out)
            have HK3' := hid (kidsIn_on (BQ.out.mono (by omega)) HK'.out)
            have e1 : w3.cell? ⟨gx, 0, none⟩ = some (.int .i64 P) := by rw [blk_cell BX.out]; rfl
            have e2 : w3.cell? ⟨gx, 1, none⟩ = some (.int .i64 L) := by rw [blk_cell BX.out]; rfl
            have e3 : w3.cell? ⟨gx, 2, none⟩ = some (.slice ka ks.length kc) := by rw [blk_cell BX.out]; rfl
            have e1' : w3.cell? ⟨gy, 0, none⟩ = some (.int .i64 P') := by rw [blk_cell BY.out]; rfl
            have e2' : w3.cell? ⟨gy, 1, none⟩ = some (.int .i64 L') := by rw [blk_cell BY.out]; rfl
            have e3' : w3.cell? ⟨gy, 2, none⟩ = some (.slice ka' ks'.length kc') := by rw [blk_cell BY.out]; rfl
            by_cases hP : P = P'
            · subst hP
              have hpP : (P != P) = false := by simp
              by_cases hLL : L = L'
              · subst hLL
                have hpL : (L != L) = false := by simp
                by_cases hKL : ks.length = ks'.length
                · have HKL := hid hKL
                  rw [hKL] at e3 BX HK3 hlb
                  have hnl : ((ks'.length : Int) != (ks'.length : Int)) = false := by simp
                  have HSL := hid (show ∀ q, sameL ks ks' = q → sameF (P, L, ks) (P, L, ks') = q from fun q hq => by unfold sameF; simp [hq])
                  clear hKL
                  go_wp2_with fail
                  go_loopw [8] (fun i wq => ∃ i' : Nat, i' ≤ ks'.length ∧ i = .int .i64 i' ∧ Hid (∀ n a b, n < i' → ks[n]? = some a → ks'[n]? = some b → sameN a b = true) ∧ Hid (Below w3.heap.size w3 wq)) (fun i _ => ks'.length - (intOf i).toNat)
                  case atStart => exact ⟨0, by omega, rfl, hid (fun i a b hi => absurd hi (Nat.not_lt_zero _)), hid (Below.refl _ _)⟩
                  case round =>
                    obtain ⟨i, hi, rfl, hAi, hBi⟩ := hrel
                    have y1 : wr.cell? ⟨gx, 2, none⟩ = some (.slice ka ks'.length kc) := by rw [blk_cell (blk_on BX.out hBi.out)]; rfl
                    have y2 : wr.cell? ⟨gy, 2, none⟩ = some (.slice ka' ks'.length kc') := by rw [blk_cell (blk_on BY.out hBi.out)]; rfl
                    have hzi := hBi.out.size
                    by_cases hil : i < ks'.length
                    · obtain ⟨y, hy⟩ : ∃ e, ks'[i]? = some e := ⟨ks'[i], List.getElem?_eq_getElem hil⟩
                      obtain ⟨x, hx⟩ : ∃ e, ks[i]? = some e := ⟨ks[i]'(by rw [HKL.out]; exact hil), List.getElem?_eq_getElem (by rw [HKL.out]; exact hil)⟩
                      have p1 := kidsIn_on (hBi.out.mono hB3) HK3.out
                      have p2 := kidsIn_on (hBi.out.mono hB3) HK3'.out
                      rw [← HKL.out] at p1
                      obtain ⟨d, of, a1, c1, a2, c2, rfl, hd, n1, m1⟩ := kid_node p1 hx
                      obtain ⟨d', of', a1', c1', a2', c2', rfl, hd', n1', m1'⟩ := kid_node p2 hy
                      obtain ⟨u0, u1, u2, u3, u4, u5, u6⟩ := n1
                      obtain ⟨v0, v1, v2, v3, v4, v5, v6⟩ := n1'
                      have hfx := HFI.out.2 x (List.mem_of_getElem? hx)
                      have SC := hid (refsame_calls x y B wr.drew _ _ _ _ (by show B ≤ wr.heap.size; omega) (hid (ndIn_on (Below.refl _ _).drew _ _ _ m1)) (hid (ndIn_on (Below.refl _ _).drew _ _ _ m1')) hfx.1 hfx.2)
                      have HXY := hid (And.intro hx hy)
                      have hdr : d < wr.heap.size := by omega
                      have hdr' : d' < wr.heap.size := by omega
                      have hgxr : gx < wr.heap.size := Nat.lt_of_lt_of_le (blk_lt BX.out) hzi
                      have hgyr : gy < wr.heap.size := Nat.lt_of_lt_of_le (blk_lt BY.out) hzi
                      have hS1 : wr.cell? ⟨gx, 2, none⟩ = some (.slice (some ⟨d, of, none⟩) ks'.length kc) ∧ wr.cell? ⟨gy, 2, none⟩ = some (.slice (some ⟨d', of', none⟩) ks'.length kc') ∧ wr.cell? ⟨d, of + i * 7, none⟩ = some (.int .i64 x.kind) ∧ wr.cell? ⟨d, of + i * 7 + 1, none⟩ = some (.int .i64 x.op) ∧ wr.cell? ⟨d, of + i * 7 + 2, none⟩ = some (.int .i64 x.num) ∧ wr.cell? ⟨d, of + i * 7 + 3, none⟩ = some (.string x.str) ∧ wr.cell? ⟨d, of + i * 7 + 4, none⟩ = some (.slice a1 x.names.length c1) ∧ wr.cell? ⟨d, of + i * 7 + 5, none⟩ = some (.slice a2 x.kids.length c2) ∧ wr.cell? ⟨d, of + i * 7 + 6, none⟩ = some (.int .i64 x.pl) ∧ wr.cell? ⟨d', of' + i * 7, none⟩ = some (.int .i64 y.kind) ∧ wr.cell? ⟨d', of' + i * 7 + 1, none⟩ = some (.int .i64 y.op) ∧ wr.cell? ⟨d', of' + i * 7 + 2, none⟩ = some (.int .i64 y.num) ∧ wr.cell? ⟨d', of' + i * 7 + 3, none⟩ = some (.string y.str) ∧ wr.cell? ⟨d', of' + i * 7 + 4, none⟩ = some (.slice a1' y.names.length c1') ∧ wr.cell? ⟨d', of' + i * 7 + 5, none⟩ = some (.slice a2' y.kids.length c2') ∧ wr.cell? ⟨d', of' + i * 7 + 6, none⟩ = some (.int .i64 y.pl) := ⟨y1, y2, u0, u1, u2, u3, u4, u5, u6, v0, v1, v2, v3, v4, v5, v6⟩
                      have HH := hid hS1
                      clear p1 p2 m1 m1' hx hy hfx
                      go_wp2_with fail
                      refine wp_region_held_drew (S := fun a => a.cell? ⟨gx, 2, none⟩ = some (.slice (some ⟨d, of, none⟩) ks'.length kc) ∧ a.cell? ⟨gy, 2, none⟩ = some (.slice (some ⟨d', of', none⟩) ks'.length kc') ∧ a.cell? ⟨d, of + i * 7, none⟩ = some (.int .i64 x.kind) ∧ a.cell? ⟨d, of + i * 7 + 1, none⟩ = some (.int .i64 x.op) ∧ a.cell? ⟨d, of + i * 7 + 2, none⟩ = some (.int .i64 x.num) ∧ a.cell? ⟨d, of + i * 7 + 3, none⟩ = some (.string x.str) ∧ a.cell? ⟨d, of + i * 7 + 4, none⟩ = some (.slice a1 x.names.length c1) ∧ a.cell? ⟨d, of + i * 7 + 5, none⟩ = some (.slice a2 x.kids.length c2) ∧ a.cell? ⟨d, of + i * 7 + 6, none⟩ = some (.int .i64 x.pl) ∧ a.cell? ⟨d', of' + i * 7, none⟩ = some (.int .i64 y.kind) ∧ a.cell? ⟨d', of' + i * 7 + 1, none⟩ = some (.int .i64 y.op) ∧ a.cell? ⟨d', of' + i * 7 + 2, none⟩ = some (.int .i64 y.num) ∧ a.cell? ⟨d', of' + i * 7 + 3, none⟩ = some (.string y.str) ∧ a.cell? ⟨d', of' + i * 7 + 4, none⟩ = some (.slice a1' y.names.length c1') ∧ a.cell? ⟨d', of' + i * 7 + 5, none⟩ = some (.slice a2' y.kids.length c2') ∧ a.cell? ⟨d', of' + i * 7 + 6, none⟩ = some (.int .i64 y.pl)) (by kernel_rfl) hS1 (fun hHeld => ?_)
                      refine tkk 0 ?_
                      refine tkk 1 ?_
                      refine tkk 2 ?_
                      refine tkk 3 ?_
                      refine tkk 4 ?_
                      refine tkk 5 ?_
                      refine tkk 6 ?_
                      refine tkk 7 ?_
                      refine tkk 8 ?_
                      refine tkk 9 ?_
                      refine rdy 10 (fun K hK => ?_)
                      go_simp
                      refine SC.out.mono ?_
                      rintro e5 w5 ⟨rfl, b5⟩
                      have D5 := (Below.refl wr.heap.size wr).drew.trans b5
                      have B5 := hid (below_on hBi.out D5)
                      go_simp
                      refine hK.out _ _ (by obtain ⟨t1, t2, t3, t4, t5, t6, t7, t8, t9, t10, t11, t12, t13, t14, t15, t16⟩ := HH.out; exact ⟨(D5.cell (p := ⟨gx, 2, none⟩) hgxr).trans t1, (D5.cell (p := ⟨gy, 2, none⟩) hgyr).trans t2, (D5.cell (p := ⟨d, of + i * 7, none⟩) hdr).trans t3, (D5.cell (p := ⟨d, of + i * 7 + 1, none⟩) hdr).trans t4, (D5.cell (p := ⟨d, of + i * 7 + 2, none⟩) hdr).trans t5, (D5.cell (p := ⟨d, of + i * 7 + 3, none⟩) hdr).trans t6, (D5.cell (p := ⟨d, of + i * 7 + 4, none⟩) hdr).trans t7, (D5.cell (p := ⟨d, of + i * 7 + 5, none⟩) hdr).trans t8, (D5.cell (p := ⟨d, of + i * 7 + 6, none⟩) hdr).trans t9, (D5.cell (p := ⟨d', of' + i * 7, none⟩) hdr').trans t10, (D5.cell (p := ⟨d', of' + i * 7 + 1, none⟩) hdr').trans t11, (D5.cell (p := ⟨d', of' + i * 7 + 2, none⟩) hdr').trans t12, (D5.cell (p := ⟨d', of' + i * 7 + 3, none⟩) hdr').trans t13, (D5.cell (p := ⟨d', of' + i * 7 + 4, none⟩) hdr').trans t14, (D5.cell (p := ⟨d', of' + i * 7 + 5, none⟩) hdr').trans t15, (D5.cell (p := ⟨d', of' + i * 7 + 6, none⟩) hdr').trans t16⟩) (fun _ => ?_)
                      clear hK K b5 D5 hHeld HH
                      try simp only [Act.put, List.setIfInBounds_toArray, List.set_cons_zero, List.set_cons_succ, List.getElem_toArray, List.getElem_cons_succ, List.getElem_cons_zero]
                      refine tkk 11 ?_
                      refine wpAnyH_done (by kernel_rfl) ?_ _
                      cases hxy : sameN x y with
                      | false =>
                        have HV := hid (HU.out false (sameFs_no HFJ.out.1 HFJ.out.2 (HSL.out false (sameU_no HXY.out.1 HXY.out.2 hxy))))
                        clear hxy
                        go_wp2_with fail
                        go_ret
                        exact ⟨by rw [HV.out]; rfl, below_on HA.out (below_on BW.out B5.out)⟩
                      | true =>
                        have HA2 := hid (show ∀ n a b, n < i + 1 → ks[n]? = some a → ks'[n]? = some b → sameN a b = true from fun n a b hn ha hb => by
                          rcases Nat.lt_or_ge n i with h | h
                          · exact hAi.out n a b h ha hb
                          · have : n = i := by omega
                            subst this
                            rw [HXY.out.1] at ha
                            rw [HXY.out.2] at hb
                            cases ha; cases hb
                            exact hxy)
                        clear hxy
                        go_wp2_with fail
                        exact ⟨⟨i + 1, by omega, by simp, HA2, B5⟩, by simp [intOf]; omega⟩
                    · have hie : i = ks'.length := by omega
                      subst hie
                      have HA2 := hid (show ∀ n a b, n < j + 1 → fs[n]? = some a → fs'[n]? = some b → sameF a b = true from fun n a b hn ha hb => by
                        rcases Nat.lt_or_ge n j with h | h
                        · exact hA.out n a b h ha hb
                        · have : n = j := by omega
                          subst this
                          rw [HFJ.out.1] at ha
                          rw [HFJ.out.2] at hb
                          cases ha; cases hb
                          exact HSL.out true (sameU_all HKL.out (fun n a b ha hb => hAi.out n a b (List.getElem?_eq_some_iff.1 hb).1 ha hb)))
                      have BZ := hid (below_on BW.out hBi.out)
                      go_wp2_with fail
                      exact ⟨⟨j + 1, by omega, by simp, HA2, BZ⟩, by simp [intOf]; omega⟩
                · have HV := hid (HU.out false (sameFs_no HFJ.out.1 HFJ.out.2 (by unfold sameF; simp [sameL_len hKL])))
                  have hne : ((ks.length : Int) != (ks'.length : Int)) = true := by simp; omega
                  clear hKL
                  go_wp2_with fail
                  go_ret
                  exact ⟨by rw [HV.out]; rfl, below_on HA.out BW.out⟩
              · have HV := hid (HU.out false (sameFs_no HFJ.out.1 HFJ.out.2 (by unfold sameF; rw [beq_eq_false_iff_ne.2 hLL]; simp)))
                have hne : (L != L') = true := by simpa using hLL
                clear hLL
                go_wp2_with fail
                go_ret
                exact ⟨by rw [HV.out]; rfl, below_on HA.out BW.out⟩
            · have HV := hid (HU.out false (sameFs_no HFJ.out.1 HFJ.out.2 (by unfold sameF; rw [beq_eq_false_iff_ne.2 hP]; rfl)))
              have hne : (P != P') = true := by simpa using hP
              clear hP
              go_wp2_with fail
              go_ret
              exact ⟨by rw [HV.out]; rfl, below_on HA.out BW.out⟩
        · have hje : j = fs'.length := by omega
          subst hje
          have HV := hid (HU.out true (sameFs_all HLn.out (fun n a b ha hb => hA.out n a b (List.getElem?_eq_some_iff.1 hb).1 ha hb)))
          go_wp2_with fail
          go_ret
          exact ⟨by rw [HV.out]; rfl, below_on HA.out hBw.out⟩
    · have hv : sameU G fs G' fs' = false := by unfold sameU; rw [sameFs_lenF hL, Bool.and_false]
      have hne : ((fs.length : Int) != (fs'.length : Int)) = true := by simp; omega
      rw [hv]
      subst hG
      have hdG : (G != G) = false := by simp
      have HL := hid hL
      clear hL
      go_enter Tryd.func11, Tryd.ntmps11
      go_wp2_with fail
      go_ret
      exact ⟨rfl, HA.out⟩
  · have hv : sameU G fs G' fs' = false := by unfold sameU; rw [beq_eq_false_iff_ne.2 hG]; rfl
    have hne : (G != G') = true := by simpa using hG
    rw [hv]
    clear hG
    go_enter Tryd.func11, Tryd.ntmps11
    go_wp2_with fail
    go_ret
    exact ⟨rfl, HA.out⟩

end Go.Proofs.YtmihckhflbepjaaDoor
