/- Depths of a code: the program's word. -/
import Derived.Test.YtnojlfdojmkonaaGreatDoorCdRow
namespace Go.Proofs.YtnojlfdojmkonaaGreatDoor
set_option linter.unusedSimpArgs false
set_option linter.unusedVariables false
set_option maxRecDepth 100000
open Go.RowKit

def TodoOk (F T : List Int) : Prop := ∀ t ∈ T, ∃ m : Nat, t = m ∧ ∃ e, F[m]? = some e ∧ 0 ≤ e
theorem todo_set {F T : List Int} {j : Nat} {e : Int} (hj : F[j]? = some (-1)) (h : TodoOk F T) : TodoOk (F.set j e) T := fun t ht => by
  obtain ⟨m, h1, x, h2, h3⟩ := h t ht
  exact ⟨m, h1, x, set_keep hj h2 h3, h3⟩
theorem todo_app {F T : List Int} {m : Nat} {e : Int} (h : TodoOk F T) (hm : F[m]? = some e) (h0 : 0 ≤ e) : TodoOk F (T ++ [(m : Int)]) := fun t ht => by
  rcases List.mem_append.1 ht with h1 | h1
  · exact h t h1
  · simp at h1
    exact ⟨m, h1, e, hm, h0⟩
/-- what is known while the targets of place j are gone through -/
structure Mid (c : Cd) (j : Nat) (dj : Int) (i N : Nat) (F T : List Int) : Prop where
  seen : Seen c F (fun k e => (k : Int) ∈ T ∨ Fit c F k e ∨ (k = j ∧ e = dj))
  todo : TodoOk F T
  fit : FitTo c F j dj i
  here : F[j]? = some dj
  less : 2 * unseen F + T.length ≤ N
theorem Mid.push {c : Cd} {j m i N n : Nat} {dj e : Int} {F T : List Int} (h : Mid c j dj i N F T) (hr : rch c.ins n j dj) (h0 : 0 ≤ dj) (hm : F[m]? = some (-1)) (hx : (nxL c.ins j dj)[i]? = some ((m : Int), e)) (he0 : 0 ≤ e) (he : e ≤ c.d) : Mid c j dj (i + 1) N (F.set m e) (T ++ [(m : Int)]) := by
  have hlt : m < F.length := (List.getElem?_eq_some_iff.1 hm).1
  have hself : (F.set m e)[m]? = some e := List.getElem?_set_self hlt
  refine ⟨?_, todo_app (todo_set hm h.todo) hself he0, fitTo_next (fitTo_set hm h.fit) hx he rfl hself, set_keep hm h.here h0, ?_⟩
  · refine seen_set h.seen hm he0 he (rch_next hr (List.mem_of_getElem? hx)) (.inl (by simp)) fun k x hk hx0 hp => ?_
    rcases hp with h1 | h1 | h1
    · exact .inl (by simp [h1])
    · exact .inr (.inl (fit_set hm h1))
    · exact .inr (.inr h1)
  · have := unseen_set he0 hm
    have := h.less
    simp
    omega
theorem Mid.same {c : Cd} {j m i N : Nat} {dj e : Int} {F T : List Int} (h : Mid c j dj i N F T) (hm : F[m]? = some e) (hx : (nxL c.ins j dj)[i]? = some ((m : Int), e)) (he : e ≤ c.d) : Mid c j dj (i + 1) N F T :=
  ⟨h.seen, h.todo, fitTo_next h.fit hx he rfl hm, h.here, h.less⟩
theorem Mid.done {c : Cd} {j N : Nat} {dj : Int} {F T : List Int} (h : Mid c j dj (tgL c.ins j).length N F T) : Seen c F (fun k e => (k : Int) ∈ T ∨ Fit c F k e) :=
  seen_mono h.seen fun k e hk h0 hp => by
    rcases hp with h1 | h1 | ⟨rfl, rfl⟩
    · exact .inl h1
    · exact .inr h1
    · exact .inr (fitTo_all h.fit (by rw [nx_len]; exact Nat.le_refl _))
theorem Mid.two {c : Cd} {j i N n : Nat} {dj e f : Int} {m : Nat} {F T : List Int} (h : Mid c j dj i N F T) (hr : rch c.ins n j dj) (hm : F[m]? = some f) (hf : f ≠ -1) (hx : (nxL c.ins j dj)[i]? = some ((m : Int), e)) (hne : f ≠ e) : ∀ ds, ¬ Flow c ds := by
  rcases h.seen.2.2 m f hm with h1 | ⟨_, _, ⟨n', hr'⟩, _⟩
  · exact absurd h1 hf
  · exact no_two hr (List.mem_of_getElem? hx) hr' hne
theorem made_row (w : World) (n : Nat) : IntsR w.heap.size (List.replicate n 0) (w.alloc (.cells (Array.replicate n (.int .i64 0)) 3)) := by
  have := blk_new w 3 (Array.replicate n (.int .i64 0))
  unfold IntsR
  simpa using this
theorem row_one (w : World) (x : Int) : (w.alloc (.cells #[.int .i64 x] 3)).ownsRow 0 3 1 (.slice (some ⟨w.heap.size, 0, none⟩) 1 1) 1 [.int .i64 x] :=
  ⟨rfl, .inr ⟨_, 1, _, rfl, Nat.zero_le _, blk_new w _ _, Nat.le_refl _, by unfold maxLen; decide, rfl, rfl⟩⟩
theorem DS.start {w0 : World} {g : Nat} {cs : Array Value} {F : List Int} {w : World} (hb : Blk g 45 cs w) (hf : IntsR (g + 1) F w) (hl : Below g w0 w) (hs : w0.heap.size = g) : DS w0 g cs F [0] (.slice (some ⟨w.heap.size, 0, none⟩) 1 1) (w.alloc (.cells #[.int .i64 0] 3)) := by
  have q := box_below w (.cells #[.int .i64 0] 3)
  have h1 := blk_lt hf
  exact ⟨blk_on hb q, blk_on hf q, row_one w 0, fun b hb => by simp [Value.ownBlock] at hb; omega, hl.trans (q.mono (by omega)), hs⟩
theorem seen_first {c : Cd} {X : List Int} (hX : ∀ (k : Nat) e, X[k]? = some e → e = -1) (hl : X.length = c.ins.length) (hn : 1 ≤ c.ins.length) (hd : 0 ≤ c.d) : Seen c (X.set 0 0) (fun k e => (k : Int) ∈ [(0 : Int)] ∨ Fit c (X.set 0 0) k e) := by
  refine ⟨by rw [List.length_set]; exact hl, List.getElem?_set_self (by omega), fun k e hk => ?_⟩
  by_cases h0 : k = 0
  · subst h0
    rw [List.getElem?_set_self (by omega)] at hk
    obtain rfl := Option.some.inj hk
    exact .inr ⟨Int.le_refl _, hd, ⟨0, rfl, rfl⟩, .inl (by simp)⟩
  · rw [List.getElem?_set_ne (by omega)] at hk
    exact .inl (hX k e hk)
/-- what the call answers -/
def DepOut (c : Cd) (e : Ending) (w : World) : Prop := (∃ ds v, e = .returned (.tuple #[v, .bool true]) ∧ Flow c ds ∧ NsIn w.heap.size w v ds) ∨ (e = .returned (.tuple #[.slice none 0 0, .bool false]) ∧ ∀ ds, ¬ Flow c ds)
def DepJ (p l s d : Int) (is : List In) (ia : Option Addr) (ic : Nat) (w : World) (N : Nat) (a' : Act) (w' : World) : Prop := ∃ (F T : List Int) (b cap : Nat) (u : Nat → Value), a' = { tmps := #[.agg #[.int .i64 p, .int .i64 l, .int .i64 s, .int .i64 d, .slice ia is.length ic], .pointer (some ⟨w.heap.size, 0, none⟩), u 2, u 3, .slice (some ⟨w.heap.size + 1, 0, none⟩) is.length is.length, u 5, .slice (some ⟨b, 0, none⟩) T.length cap, u 7, u 8, u 9, u 10, u 11, u 12, u 13, u 14, u 15, u 16, u 17, u 18, u 19, u 20, u 21, u 22, u 23, u 24, u 25, u 26, u 27, u 28, u 29, u 30, u 31, u 32, u 33, u 34, u 35, u 36, u 37, u 38, u 39, u 40, u 41, u 42, u 43, u 44, u 45, u 46, u 47, u 48, u 49, u 50, u 51, u 52, u 53, u 54, u 55, u 56, u 57, u 58, u 59, u 60, u 61, u 62, u 63, u 64, u 65, u 66, u 67, u 68, u 69, u 70, u 71, u 72, u 73, u 74, u 75, u 76, u 77, u 78, u 79, u 80, u 81, u 82, u 83, u 84, u 85, u 86, u 87, u 88, u 89, u 90, u 91, u 92, u 93, u 94, u 95, u 96, u 97, u 98, u 99, u 100, u 101, u 102, u 103, u 104, u 105, u 106, u 107, u 108, u 109, u 110, u 111, u 112, u 113, u 114, u 115], defers := [] } ∧ N = 2 * unseen F + T.length ∧ N ≤ 2 * is.length ∧ Hid (DS w w.heap.size #[.int .i64 p, .int .i64 l, .int .i64 s, .int .i64 d, .slice ia is.length ic] F T (.slice (some ⟨b, 0, none⟩) T.length cap) w') ∧ Hid (Seen ⟨p, l, s, d, is⟩ F (fun k e => (k : Int) ∈ T ∨ Fit ⟨p, l, s, d, is⟩ F k e)) ∧ Hid (TodoOk F T)
theorem depJ_mk {p l s d : Int} {is : List In} {ia : Option Addr} {ic : Nat} {w : World} {N : Nat} {a' : Act} {w' : World} (F T : List Int) (b cap : Nat) (h : a' = { tmps := #[.agg #[.int .i64 p, .int .i64 l, .int .i64 s, .int .i64 d, .slice ia is.length ic], .pointer (some ⟨w.heap.size, 0, none⟩), a'.tmps.getD 2 undef, a'.tmps.getD 3 undef, .slice (some ⟨w.heap.size + 1, 0, none⟩) is.length is.length, a'.tmps.getD 5 undef, .slice (some ⟨b, 0, none⟩) T.length cap, a'.tmps.getD 7 undef, a'.tmps.getD 8 undef, a'.tmps.getD 9 undef, a'.tmps.getD 10 undef, a'.tmps.getD 11 undef, a'.tmps.getD 12 undef, a'.tmps.getD 13 undef, a'.tmps.getD 14 undef, a'.tmps.getD 15 undef, a'.tmps.getD 16 undef, a'.tmps.getD 17 undef, a'.tmps.getD 18 undef, a'.tmps.getD 19 undef, a'.tmps.getD 20 undef, a'.tmps.getD 21 undef, a'.tmps.getD 22 undef, a'.tmps.getD 23 undef, a'.tmps.getD 24 undef, a'.tmps.getD 25 undef, a'.tmps.getD 26 undef, a'.tmps.getD 27 undef, a'.tmps.getD 28 undef, a'.tmps.getD 29 undef, a'.tmps.getD 30 undef, a'.tmps.getD 31 undef, a'.tmps.getD 32 undef, a'.tmps.getD 33 undef, a'.tmps.getD 34 undef, a'.tmps.getD 35 undef, a'.tmps.getD 36 undef, a'.tmps.getD 37 undef, a'.tmps.getD 38 undef, a'.tmps.getD 39 undef, a'.tmps.getD 40 undef, a'.tmps.getD 41 undef, a'.tmps.getD 42 undef, a'.tmps.getD 43 undef, a'.tmps.getD 44 undef, a'.tmps.getD 45 undef, a'.tmps.getD 46 undef, a'.tmps.getD 47 undef, a'.tmps.getD 48 undef, a'.tmps.getD 49 undef, a'.tmps.getD 50 undef, a'.tmps.getD 51 undef, a'.tmps.getD 52 undef, a'.tmps.getD 53 undef, a'.tmps.getD 54 undef, a'.tmps.getD 55 undef, a'.tmps.getD 56 undef, a'.tmps.getD 57 undef, a'.tmps.getD 58 undef, a'.tmps.getD 59 undef, a'.tmps.getD 60 undef, a'.tmps.getD 61 undef, a'.tmps.getD 62 undef, a'.tmps.getD 63 undef, a'.tmps.getD 64 undef, a'.tmps.getD 65 undef, a'.tmps.getD 66 undef, a'.tmps.getD 67 undef, a'.tmps.getD 68 undef, a'.tmps.getD 69 undef, a'.tmps.getD 70 undef, a'.tmps.getD 71 undef, a'.tmps.getD 72 undef, a'.tmps.getD 73 undef, a'.tmps.getD 74 undef, a'.tmps.getD 75 undef, a'.tmps.getD 76 undef, a'.tmps.getD 77 undef, a'.tmps.getD 78 undef, a'.tmps.getD 79 undef, a'.tmps.getD 80 undef, a'.tmps.getD 81 undef, a'.tmps.getD 82 undef, a'.tmps.getD 83 undef, a'.tmps.getD 84 undef, a'.tmps.getD 85 undef, a'.tmps.getD 86 undef, a'.tmps.getD 87 undef, a'.tmps.getD 88 undef, a'.tmps.getD 89 undef, a'.tmps.getD 90 undef, a'.tmps.getD 91 undef, a'.tmps.getD 92 undef, a'.tmps.getD 93 undef, a'.tmps.getD 94 undef, a'.tmps.getD 95 undef, a'.tmps.getD 96 undef, a'.tmps.getD 97 undef, a'.tmps.getD 98 undef, a'.tmps.getD 99 undef, a'.tmps.getD 100 undef, a'.tmps.getD 101 undef, a'.tmps.getD 102 undef, a'.tmps.getD 103 undef, a'.tmps.getD 104 undef, a'.tmps.getD 105 undef, a'.tmps.getD 106 undef, a'.tmps.getD 107 undef, a'.tmps.getD 108 undef, a'.tmps.getD 109 undef, a'.tmps.getD 110 undef, a'.tmps.getD 111 undef, a'.tmps.getD 112 undef, a'.tmps.getD 113 undef, a'.tmps.getD 114 undef, a'.tmps.getD 115 undef], defers := [] }) (hi : N = 2 * unseen F + T.length ∧ N ≤ 2 * is.length ∧ Hid (DS w w.heap.size #[.int .i64 p, .int .i64 l, .int .i64 s, .int .i64 d, .slice ia is.length ic] F T (.slice (some ⟨b, 0, none⟩) T.length cap) w') ∧ Hid (Seen ⟨p, l, s, d, is⟩ F (fun k e => (k : Int) ∈ T ∨ Fit ⟨p, l, s, d, is⟩ F k e)) ∧ Hid (TodoOk F T)) : DepJ p l s d is ia ic w N a' w' := ⟨F, T, b, cap, fun i => a'.tmps.getD i undef, h, hi⟩
set_option maxHeartbeats 6400000 in
theorem depths_calls (B : Nat) (c : Cd) (iv : Value) (w : World) (hB : B ≤ w.heap.size) (hI : InsIn B w iv c.ins) (hn : 1 ≤ c.ins.length) (hl : c.ins.length ≤ 4000) (hd : 0 ≤ c.d ∧ c.d ≤ 64) (hA : ∀ (k : Nat) (x : In), c.ins[k]? = some x → goB x.1 = true → 0 ≤ x.2.1) :
    Calls Tryz.prog 29 #[cdV c iv] w fun e w' => DepOut c e w' ∧ Below w.heap.size w w' := by
  obtain ⟨p, l, s, d, is⟩ := c
  simp only [cdV] at *
  obtain ⟨ia, ic, rfl⟩ := insIn_shape hI
  have HA := hid hA
  have HI := hid hI
  have EF := hid effect_calls
  have TG := hid (fun W hW hI => targets_calls B ⟨p, l, s, d, is⟩ (.slice ia is.length ic) (w := W) (hB := hW) (hI := hI) (hl := by simp only; omega))
  clear hA hI
  obtain ⟨i0, hi0, hz0, hz1, hz2⟩ := infoInt
  go_enter Tryz.func29, Tryz.ntmps29
  go_wp2_with fail
  refine wp_scope_pass 0 (DepJ p l s d is ia ic w) rfl ?_ ?_
  · rintro N a0 w1 ⟨F0, T0, b, cap, u, rfl, hN, hN2, hD, hS, hT⟩ J' hJ'
    rcases List.eq_nil_or_concat T0 with rfl | ⟨T1, t0, rfl⟩
    · have FL := hid (seen_flow (seen_mono hS.out fun k e hk h0 hp => hp.resolve_left (by simp)))
      have NS := hid (nsIn_blk (n := is.length) (xs := F0) FL.out.1 hD.out.fnd)
      have LW := hid hD.out.low
      simp only [List.length_nil] at hN ⊢
      go_wp2_with fail
      simp only [Exit.jump]
      go_ret2
      exact ⟨.inl ⟨_, _, rfl, FL.out, NS.out⟩, LW.out⟩
    · rw [List.concat_eq_append] at hD hS hT hN ⊢
      obtain ⟨j, rfl, dj, hdj, h0j⟩ := hT.out t0 (by simp)
      simp only [List.length_append, List.length_cons, List.length_nil, Nat.zero_add] at hD hN ⊢
      obtain ⟨_, hdd, ⟨n, hr⟩, _⟩ := (hS.out.2.2 j dj hdj).resolve_left (by omega)
      have hjl : j < is.length := by
        have := (List.getElem?_eq_some_iff.1 hdj).1
        rw [hS.out.1] at this
        exact this
      obtain ⟨x, hxj⟩ : ∃ x, is[j]? = some x := ⟨_, List.getElem?_eq_getElem hjl⟩
      obtain ⟨o, a, bb⟩ := x
      have HI1 := hid (insIn_on HI.out (hD.out.low.mono hB))
      obtain ⟨ib, off, hia, hib, x0, x1, x2⟩ := insIn_at HI1.out hxj
      subst hia
      simp only at x0 x1 x2 hdd
      have t1 : w1.cell? ⟨b, T1.length, none⟩ = some (.int .i64 (j : Int)) := row_cell (by simpa using hD.out.row) (by simp)
      have f0 := ir_cell hD.out.fnd hdj
      have c4 : w1.cell? ⟨w.heap.size, 4, none⟩ = some (.slice (some ⟨ib, off, none⟩) is.length ic) := blk_cellZ hD.out.box 4 rfl
      have hsz : w.heap.size + 1 < w1.heap.size := blk_lt hD.out.fnd
      have hib1 : ib < w1.heap.size := by omega
      have hT1 : T1.length ≤ 100000 := by omega
      have hfs : (1 : Int) ≤ (T1.length : Int) + 1 := by omega
      have hjl' : (j : Int) < (is.length : Int) := by omega
      have hcap : T1.length + 1 ≤ cap := by
        rcases hD.out.row.2 with ⟨h, _⟩ | ⟨g', cap', cur, h, _, _, h4, _⟩
        · cases h
        · injection h with _ _ h3
          subst h3
          simpa using h4
      go_upto_region 13 with fail
      have CELLS := hid (fun (F T : List Int) (tv : Value) (W : World) (h : DS w w.heap.size #[.int .i64 p, .int .i64 l, .int .i64 s, .int .i64 d, .slice (some ⟨ib, off, none⟩) is.length ic] F T tv W) => (show W.cell? ⟨w.heap.size, 0, none⟩ = some (.int .i64 p) ∧ W.cell? ⟨w.heap.size, 1, none⟩ = some (.int .i64 l) ∧ W.cell? ⟨w.heap.size, 2, none⟩ = some (.int .i64 s) ∧ W.cell? ⟨w.heap.size, 3, none⟩ = some (.int .i64 d) ∧ W.cell? ⟨w.heap.size, 4, none⟩ = some (.slice (some ⟨ib, off, none⟩) is.length ic) from ⟨blk_cellZ h.box 0 rfl, blk_cellZ h.box 1 rfl, blk_cellZ h.box 2 rfl, blk_cellZ h.box 3 rfl, blk_cellZ h.box 4 rfl⟩))
      have D1 := hid hD.out.pop
      have EFX := hid (EF.out o a bb)
      have hE := effI_bound o a
      have hpop := pop_at hxj
      simp only at hpop
      have NXA := hid (fun (i : Nat) (t : Int) (h : (tgL is j)[i]? = some t) => nx_at (d := dj) hxj h)
      simp only at NXA
      generalize effI o a = E at *
      obtain ⟨P, U⟩ := E
      simp only at hE hpop
      have hT0 := hid (show TodoOk F0 T1 from fun t ht => hT.out t (by simp [ht]))
      go_wp2_with fail
      refine (EFX.out _).mono ?_
      rintro e w2 ⟨rfl, b2⟩
      have D2 := hid (D1.out.on b2)
      obtain ⟨c0, c1, c2, c3, c4⟩ := CELLS.out _ _ _ _ D2.out
      replace f0 := ir_cell D2.out.fnd hdj
      have HI2 := hid (insIn_on HI.out (D2.out.low.mono hB))
      clear b2 D1 t1 x0 x1 x2 hD
      by_cases hlf : dj < P
      · have NO := hid (no_pop (c := ⟨p, l, s, d, is⟩) hr (by simp only; omega))
        have hlf' : dj - P < 0 := by omega
        go_wp2_with fail
        simp only [Exit.jump]
        go_ret2
        exact ⟨.inr ⟨rfl, NO.out⟩, D2.out.low⟩
      have hlf' : 0 ≤ dj - P := by omega
      have hlf2 : dj - P ≤ 64 := by omega
      clear hlf
      go_wp2_with fail
      refine (TG.out _ (by have := D2.out.low.size; omega) HI2.out _).mono ?_
      rintro e w3 ⟨v3, rfl, g3, b3⟩
      rw [tgT_nat] at g3
      have D3 := hid (D2.out.on b3)
      have K3 := hid (TgN.beside (g := w.heap.size) (tv := .slice (some ⟨b, 0, none⟩) T1.length cap) g3 (by have := blk_lt D2.out.fnd; omega) (fun b' hb' => by
        obtain ⟨cur, hc⟩ := row_lt D2.out.row hb'
        exact blk_lt hc))
      clear g3 b3 c0 c1 c2 c3 c4 f0
      have GE := hid (fun (i : Nat) (t : Int) (h : (tgL is j)[i]? = some t) => tg_ge hxj (HA.out j _ hxj) h)
      have M3 := hid (show Mid ⟨p, l, s, d, is⟩ j dj 0 (2 * unseen F0 + T1.length) F0 T1 from ⟨seen_mono hS.out fun k e hk h0 hp => by
        rcases hp with h1 | h1
        · rcases List.mem_append.1 h1 with h2 | h2
          · exact .inl h2
          · simp at h2
            have hkj : k = j := by omega
            subst hkj
            rw [hdj] at hk
            exact .inr (.inr ⟨rfl, (Option.some.inj hk).symm⟩)
        · exact .inr (.inl h1), hT0.out, ⟨by simp only; omega, fun i _ _ hi => absurd hi (Nat.not_lt_zero _)⟩, hdj, Nat.le_refl _⟩)
      have DN := hid (fun (F T : List Int) (h : Mid ⟨p, l, s, d, is⟩ j dj (tgL is j).length (2 * unseen F0 + T1.length) F T) => h.done)
      have KP := hid (kept_calls o)
      have hfew := tg_few (is := is) (k := j)
      generalize tgL is j = tl at *
      obtain ⟨ta, rfl⟩ := K3.out.shape
      go_wp2_with fail
      clear hpop
      go_loopw [6, 66] (fun tv iV wr => ∃ (i : Nat) (F T : List Int) (b cap : Nat), i ≤ tl.length ∧ iV = .int .i64 i ∧ tv = .slice (some ⟨b, 0, none⟩) T.length cap ∧ Hid (DS w w.heap.size #[.int .i64 p, .int .i64 l, .int .i64 s, .int .i64 d, .slice (some ⟨ib, off, none⟩) is.length ic] F T (.slice (some ⟨b, 0, none⟩) T.length cap) wr) ∧ Hid (Mid ⟨p, l, s, d, is⟩ j dj i (2 * unseen F0 + T1.length) F T) ∧ Hid (TgK w.heap.size (.slice (some ⟨b, 0, none⟩) T.length cap) (.slice ta tl.length tl.length) tl wr)) (fun _ iV _ => tl.length - (intOf iV).toNat)
      case atStart => exact ⟨0, F0, T1, b, cap, by omega, rfl, rfl, D3, M3, K3⟩
      case round =>
        obtain ⟨i, F, T, b, cap, hi, rfl, rfl, hD, hM, hK⟩ := hrel
        by_cases hil : i < tl.length
        · obtain ⟨t, htt⟩ : ∃ t, tl[i]? = some t := ⟨_, List.getElem?_eq_getElem hil⟩
          obtain ⟨m, rfl⟩ : ∃ m : Nat, t = (m : Int) := ⟨t.toNat, by have := GE.out _ _ htt; omega⟩
          obtain ⟨tb, hta, tc⟩ := hK.out.at htt
          subst hta
          obtain ⟨c0, c1, c2, c3, c4⟩ := CELLS.out _ _ _ _ hD.out
          have hLow := hid hD.out.low
          have HI3 := hid (insIn_on HI.out (hD.out.low.mono hB))
          obtain ⟨ib', off', he, hib', x0, x1, x2⟩ := insIn_at HI3.out hxj
          obtain ⟨rfl, rfl⟩ : ib' = ib ∧ off' = off := by
            injection he with he
            injection he with he1 he2
            exact ⟨he1.symm, he2.symm⟩
          simp only at x0
          clear x1 x2 he c0 c1 c2 HI3
          by_cases hi1 : i = 1
          · have b0 : ((i : Int) == 1) = true := by rw [hi1]; rfl
            cases hk : keepB o with
            | false =>
              rw [hk] at KP
              have hflag : (decide (i = 1) && keepB o) = false := by rw [hk]; simp
              clear hi1 hk
              go_wp2_with fail
              refine (KP.out _).mono ?_
              rintro e w5 ⟨rfl, rfl⟩
              have hx := NXA.out _ _ htt
              replace hx : (nxL is j dj)[i]? = some ((m : Int), dj - P + U) := hx.trans (by rw [hflag]; simp)
              have HX := hid hx
              clear hx hflag
              by_cases hbig : is.length ≤ m
              · have hbig' : (is.length : Int) ≤ (m : Int) := by omega
                have NO := hid (no_room (c := ⟨p, l, s, d, is⟩) hr (List.mem_of_getElem? HX.out) (.inl hbig'))
                go_wp2_with fail
                simp only [Exit.jump]
                go_ret2
                exact ⟨.inr ⟨rfl, NO.out⟩, hLow.out⟩
              have hbig' : (m : Int) < (is.length : Int) := by omega
              by_cases hdeep : d < dj - P + U
              · have NO := hid (no_room (c := ⟨p, l, s, d, is⟩) hr (List.mem_of_getElem? HX.out) (.inr hdeep))
                go_wp2_with fail
                simp only [Exit.jump]
                go_ret2
                exact ⟨.inr ⟨rfl, NO.out⟩, hLow.out⟩
              have hdeep' : dj - P + U ≤ d := by omega
              have he0 : 0 ≤ dj - P + U := by omega
              obtain ⟨f, hf⟩ : ∃ f, F[m]? = some f := ⟨_, List.getElem?_eq_getElem (by rw [hM.out.seen.1]; simp only; omega)⟩
              have f0 := ir_cell hD.out.fnd hf
              have f1 := ir_free hD.out.fnd m
              by_cases hf1 : f = -1
              · subst hf1
                have M2 := hid (hM.out.push hr h0j hf HX.out he0 hdeep')
                have D2 := hid (hD.out.set m (dj - P + U))
                have K2 := hid (hK.out.set (j := m) (u := .int .i64 (dj - P + U)))
                have arm : T.length ≤ 1000000 := by
                  have := hM.out.less
                  have := unseen_le F0
                  omega
                go_wp2_with (first | (at_builtin; refine row_app elInt (by decide) (by decide) rfl _ _ rfl T.length (T.map (Value.int .i64)) [.int .i64 (m : Int)] rfl (by intro u hu; simp at hu; subst hu; rfl) (.slice (some ⟨b, 0, none⟩) T.length cap) (by rfl) D2.out.row _ (by rfl) (by simp) arm ?_; intro g cp w4 hown hgrow hat; have D3 := hid (D2.out.app hown hgrow hat); have K3 := hid (K2.out.app (m := T.length + 1) (cap := cp) hgrow hat); clear hown hgrow hat) | fail)
                exact ⟨⟨i + 1, F.set m (dj - P + U), T ++ [(m : Int)], g, cp, by omega, by simp, by simp, by simpa using D3, M2, by simpa using K3⟩, by simp [intOf]; omega⟩
              have b1 : (f == -1) = false := beq_eq_false_iff_ne.2 hf1
              by_cases hfe : f = dj - P + U
              · subst hfe
                have M2 := hid (hM.out.same hf HX.out hdeep')
                go_wp2_with fail
                exact ⟨⟨i + 1, F, T, b, cap, by omega, by simp, rfl, hD, M2, hK⟩, by simp [intOf]; omega⟩
              have b2 : (f == dj - P + U) = false := beq_eq_false_iff_ne.2 hfe
              have NO := hid (hM.out.two hr hf hf1 HX.out hfe)
              go_wp2_with fail
              simp only [Exit.jump]
              go_ret2
              exact ⟨.inr ⟨rfl, NO.out⟩, hLow.out⟩
            | true =>
              rw [hk] at KP
              have hflag : (decide (i = 1) && keepB o) = true := by rw [hk, hi1]; rfl
              clear hi1 hk
              go_wp2_with fail
              refine (KP.out _).mono ?_
              rintro e w5 ⟨rfl, rfl⟩
              have hx := NXA.out _ _ htt
              replace hx : (nxL is j dj)[i]? = some ((m : Int), dj - P + U + 1) := hx.trans (by rw [hflag]; simp)
              have HX := hid hx
              clear hx hflag
              by_cases hbig : is.length ≤ m
              · have hbig' : (is.length : Int) ≤ (m : Int) := by omega
                have NO := hid (no_room (c := ⟨p, l, s, d, is⟩) hr (List.mem_of_getElem? HX.out) (.inl hbig'))
                go_wp2_with fail
                simp only [Exit.jump]
                go_ret2
                exact ⟨.inr ⟨rfl, NO.out⟩, hLow.out⟩
              have hbig' : (m : Int) < (is.length : Int) := by omega
              by_cases hdeep : d < dj - P + U + 1
              · have NO := hid (no_room (c := ⟨p, l, s, d, is⟩) hr (List.mem_of_getElem? HX.out) (.inr hdeep))
                go_wp2_with fail
                simp only [Exit.jump]
                go_ret2
                exact ⟨.inr ⟨rfl, NO.out⟩, hLow.out⟩
              have hdeep' : dj - P + U + 1 ≤ d := by omega
              have he0 : 0 ≤ dj - P + U + 1 := by omega
              obtain ⟨f, hf⟩ : ∃ f, F[m]? = some f := ⟨_, List.getElem?_eq_getElem (by rw [hM.out.seen.1]; simp only; omega)⟩
              have f0 := ir_cell hD.out.fnd hf
              have f1 := ir_free hD.out.fnd m
              by_cases hf1 : f = -1
              · subst hf1
                have M2 := hid (hM.out.push hr h0j hf HX.out he0 hdeep')
                have D2 := hid (hD.out.set m (dj - P + U + 1))
                have K2 := hid (hK.out.set (j := m) (u := .int .i64 (dj - P + U + 1)))
                have arm : T.length ≤ 1000000 := by
                  have := hM.out.less
                  have := unseen_le F0
                  omega
                go_wp2_with (first | (at_builtin; refine row_app elInt (by decide) (by decide) rfl _ _ rfl T.length (T.map (Value.int .i64)) [.int .i64 (m : Int)] rfl (by intro u hu; simp at hu; subst hu; rfl) (.slice (some ⟨b, 0, none⟩) T.length cap) (by rfl) D2.out.row _ (by rfl) (by simp) arm ?_; intro g cp w4 hown hgrow hat; have D3 := hid (D2.out.app hown hgrow hat); have K3 := hid (K2.out.app (m := T.length + 1) (cap := cp) hgrow hat); clear hown hgrow hat) | fail)
                exact ⟨⟨i + 1, F.set m (dj - P + U + 1), T ++ [(m : Int)], g, cp, by omega, by simp, by simp, by simpa using D3, M2, by simpa using K3⟩, by simp [intOf]; omega⟩
              have b1 : (f == -1) = false := beq_eq_false_iff_ne.2 hf1
              by_cases hfe : f = dj - P + U + 1
              · subst hfe
                have M2 := hid (hM.out.same hf HX.out hdeep')
                go_wp2_with fail
                exact ⟨⟨i + 1, F, T, b, cap, by omega, by simp, rfl, hD, M2, hK⟩, by simp [intOf]; omega⟩
              have b2 : (f == dj - P + U + 1) = false := beq_eq_false_iff_ne.2 hfe
              have NO := hid (hM.out.two hr hf hf1 HX.out hfe)
              go_wp2_with fail
              simp only [Exit.jump]
              go_ret2
              exact ⟨.inr ⟨rfl, NO.out⟩, hLow.out⟩
          · have b0 : ((i : Int) == 1) = false := beq_eq_false_iff_ne.2 (by omega)
            have hflag : (decide (i = 1) && keepB o) = false := by rw [decide_eq_false hi1]; rfl
            clear hi1
            have hx := NXA.out _ _ htt
            replace hx : (nxL is j dj)[i]? = some ((m : Int), dj - P + U) := hx.trans (by rw [hflag]; simp)
            have HX := hid hx
            clear hx hflag
            by_cases hbig : is.length ≤ m
            · have hbig' : (is.length : Int) ≤ (m : Int) := by omega
              have NO := hid (no_room (c := ⟨p, l, s, d, is⟩) hr (List.mem_of_getElem? HX.out) (.inl hbig'))
              go_wp2_with fail
              simp only [Exit.jump]
              go_ret2
              exact ⟨.inr ⟨rfl, NO.out⟩, hLow.out⟩
            have hbig' : (m : Int) < (is.length : Int) := by omega
            by_cases hdeep : d < dj - P + U
            · have NO := hid (no_room (c := ⟨p, l, s, d, is⟩) hr (List.mem_of_getElem? HX.out) (.inr hdeep))
              go_wp2_with fail
              simp only [Exit.jump]
              go_ret2
              exact ⟨.inr ⟨rfl, NO.out⟩, hLow.out⟩
            have hdeep' : dj - P + U ≤ d := by omega
            have he0 : 0 ≤ dj - P + U := by omega
            obtain ⟨f, hf⟩ : ∃ f, F[m]? = some f := ⟨_, List.getElem?_eq_getElem (by rw [hM.out.seen.1]; simp only; omega)⟩
            have f0 := ir_cell hD.out.fnd hf
            have f1 := ir_free hD.out.fnd m
            by_cases hf1 : f = -1
            · subst hf1
              have M2 := hid (hM.out.push hr h0j hf HX.out he0 hdeep')
              have D2 := hid (hD.out.set m (dj - P + U))
              have K2 := hid (hK.out.set (j := m) (u := .int .i64 (dj - P + U)))
              have arm : T.length ≤ 1000000 := by
                have := hM.out.less
                have := unseen_le F0
                omega
              go_wp2_with (first | (at_builtin; refine row_app elInt (by decide) (by decide) rfl _ _ rfl T.length (T.map (Value.int .i64)) [.int .i64 (m : Int)] rfl (by intro u hu; simp at hu; subst hu; rfl) (.slice (some ⟨b, 0, none⟩) T.length cap) (by rfl) D2.out.row _ (by rfl) (by simp) arm ?_; intro g cp w4 hown hgrow hat; have D3 := hid (D2.out.app hown hgrow hat); have K3 := hid (K2.out.app (m := T.length + 1) (cap := cp) hgrow hat); clear hown hgrow hat) | fail)
              exact ⟨⟨i + 1, F.set m (dj - P + U), T ++ [(m : Int)], g, cp, by omega, by simp, by simp, by simpa using D3, M2, by simpa using K3⟩, by simp [intOf]; omega⟩
            have b1 : (f == -1) = false := beq_eq_false_iff_ne.2 hf1
            by_cases hfe : f = dj - P + U
            · subst hfe
              have M2 := hid (hM.out.same hf HX.out hdeep')
              go_wp2_with fail
              exact ⟨⟨i + 1, F, T, b, cap, by omega, by simp, rfl, hD, M2, hK⟩, by simp [intOf]; omega⟩
            have b2 : (f == dj - P + U) = false := beq_eq_false_iff_ne.2 hfe
            have NO := hid (hM.out.two hr hf hf1 HX.out hfe)
            go_wp2_with fail
            simp only [Exit.jump]
            go_ret2
            exact ⟨.inr ⟨rfl, NO.out⟩, hLow.out⟩
        · have hie : i = tl.length := by omega
          subst hie
          have SN := hid (DN.out _ _ hM.out)
          have TD := hid hM.out.todo
          have LE := hM.out.less
          go_wp2_with fail
          go_step3
          exact ⟨rfl, hJ' (2 * unseen F + T.length) _ _ (by omega) (depJ_mk F T b cap rfl ⟨rfl, by omega, hD, SN, TD⟩)⟩
  · intro PASS
    have BX := hid (blk_new w 45 #[.int .i64 p, .int .i64 l, .int .i64 s, .int .i64 d, .slice ia is.length ic])
    have AL := hid (box_below w (.cells #[.int .i64 p, .int .i64 l, .int .i64 s, .int .i64 d, .slice ia is.length ic] 45))
    have hsz : (w.alloc (.cells #[.int .i64 p, .int .i64 l, .int .i64 s, .int .i64 d, .slice ia is.length ic] 45)).heap.size = w.heap.size + 1 := by simp
    generalize hW : w.alloc (.cells #[.int .i64 p, .int .i64 l, .int .i64 s, .int .i64 d, .slice ia is.length ic] 45) = w1 at *
    have c4 : w1.cell? ⟨w.heap.size, 4, none⟩ = some (.slice ia is.length ic) := blk_cellZ BX.out 4 rfl
    have MK := hid (made_row w1 is.length)
    rw [hsz] at MK
    have AL2 := hid (AL.out.trans ((box_below w1 (.cells (Array.replicate is.length (.int .i64 0)) 3)).mono (by omega)))
    have BX2 := hid (blk_on BX.out (box_below w1 (.cells (Array.replicate is.length (.int .i64 0)) 3)))
    have hsz2 : (w1.alloc (.cells (Array.replicate is.length (.int .i64 0)) 3)).heap.size = w.heap.size + 2 := by simp; omega
    go_wp2_with (first | (at_make; refine wpList_make_row _ rfl _ _ _ rfl _ i0 _ underInts hi0 hz0 hz1 rfl .i64 .i64 is.length (by rfl) (by rfl) (by rw [hz2]; omega) (by omega) ?_; rw [made_ints]) | fail)
    generalize hW2 : w1.alloc (.cells (Array.replicate is.length (.int .i64 0)) 3) = w2 at *
    go_loopw [20] (fun iV wr => ∃ (i : Nat) (X : List Int), i ≤ is.length ∧ iV = .int .i64 i ∧ X.length = is.length ∧ Hid (∀ (k : Nat) e, k < i → X[k]? = some e → e = -1) ∧ Hid (IntsR (w.heap.size + 1) X wr) ∧ Hid (Blk w.heap.size 45 #[.int .i64 p, .int .i64 l, .int .i64 s, .int .i64 d, .slice ia is.length ic] wr) ∧ Hid (Below w.heap.size w wr)) (fun iV _ => is.length - (intOf iV).toNat)
    case atStart => exact ⟨0, _, by omega, rfl, by simp, hid (fun k e hk => absurd hk (Nat.not_lt_zero _)), MK, BX2, AL2⟩
    case round =>
      obtain ⟨i, X, hi, rfl, hXl, hX, hR, hB4, hL4⟩ := hrel
      by_cases hil : i < is.length
      · have hil' : (i : Int) < (is.length : Int) := by omega
        have fr := ir_free hR.out i
        obtain ⟨y, hy⟩ : ∃ y, X[i]? = some y := ⟨_, List.getElem?_eq_getElem (by omega)⟩
        have y0 := ir_cell hR.out hy
        have R2 := hid (ir_set hR.out i (-1))
        have B2 := hid (blk_setO (i := i) (v := .int .i64 (-1)) hB4.out (show w.heap.size + 1 ≠ w.heap.size by omega))
        have L2 := hid (hL4.out.trans ((Keep.set (S := fun k => w.heap.size < k) (g := w.heap.size + 1) (by omega) wr i (.int .i64 (-1))).below (by have := blk_lt hB4.out; omega) (fun k hk => by omega)))
        have X2 := hid (show ∀ (k : Nat) e, k < i + 1 → (X.set i (-1))[k]? = some e → e = -1 from fun k e hk he => by
          by_cases hki : k = i
          · subst hki
            rw [List.getElem?_set_self (by omega)] at he
            exact (Option.some.inj he).symm
          · rw [List.getElem?_set_ne (by omega)] at he
            exact hX.out k e (by omega) he)
        go_wp2_with fail
        exact ⟨⟨i + 1, X.set i (-1), by omega, by simp, by simpa using hXl, X2, R2, B2, L2⟩, by simp [intOf]; omega⟩
      · have hie : i = is.length := by omega
        subst hie
        have XA := hid (show ∀ (k : Nat) e, X[k]? = some e → e = -1 from fun k e he => hX.out k e (by have := (List.getElem?_eq_some_iff.1 he).1; omega) he)
        have SN := hid (seen_first (c := ⟨p, l, s, d, is⟩) XA.out hXl hn hd.1)
        have fr := ir_free hR.out 0
        obtain ⟨y, hy⟩ : ∃ y, X[0]? = some y := ⟨_, List.getElem?_eq_getElem (by omega)⟩
        have y0 := ir_cell hR.out hy
        have hy1 := XA.out 0 y hy
        have UN := unseen_set (e := 0) (Int.le_refl _) (F := X) (j := 0) (by rw [hy, hy1])
        have UL := unseen_le X
        have R2 := ir_set hR.out 0 0
        have B2 := blk_setO (i := 0) (v := .int .i64 0) hB4.out (show w.heap.size + 1 ≠ w.heap.size by omega)
        have L2 := hL4.out.trans ((Keep.set (S := fun k => w.heap.size < k) (g := w.heap.size + 1) (by omega) wr 0 (.int .i64 0)).below (by have := blk_lt hB4.out; omega) (fun k hk => by omega))
        have D2 := hid (DS.start B2 R2 L2 rfl)
        clear R2 B2 L2
        have T2 := hid (show TodoOk (X.set 0 0) [0] from fun t ht => ⟨0, by simpa using ht, 0, List.getElem?_set_self (by omega), Int.le_refl _⟩)
        have h0n : (0 : Int) < (is.length : Int) := by omega
        go_wp2_with fail
        go_step3
        rename_i hKK
        refine hKK _ _ (PASS (2 * unseen (X.set 0 0) + 1) _ _ ?_)
        exact depJ_mk (X.set 0 0) [0] wr.heap.size 1 rfl ⟨rfl, by omega, by simpa using D2, SN, T2⟩

end Go.Proofs.YtnojlfdojmkonaaGreatDoor
