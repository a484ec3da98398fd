/- Where calls stand; signs and built-in calls. Whether two trees are alike. A copy of a node with just the fields that its kind has; signs and built-in calls. -/
import Derived.Test.YtgdbaceehpcgbaaDoorJoint3
import Derived.Test.YtgdbaceehpcgbaaDoorJoint2
import Derived.Test.YtgdbaceehpcgbaaDoorKey
import Derived.Test.YtgdbaceehpcgbaaDoorTreeAll
namespace Go.Proofs.YtgdbaceehpcgbaaDoor
open Go.RowKit

/-- where a call stands: old memory below B, the table of signs in block 0 -/
def Ok (B : Nat) (w : World) : Prop := B ≤ w.heap.size ∧ 0 < B ∧ Texts 0 tsgnL w
theorem ok_on {B : Nat} {a c : World} (h : Ok B a) (q : Below B a c) : Ok B c :=
  ⟨Nat.le_trans h.1 q.size, h.2.1, fun i hi => cell_keep q h.2.1 (h.2.2 i hi)⟩

theorem sign_calls (o : Int) (B : Nat) (w : World) (hO : Hid (Ok B w)) :
    Calls Tryd.prog 107 #[.int .i64 o] w fun e w' => e = .returned (.string ⟨(signT o).toArray⟩) ∧ w = w' := by
  by_cases h0 : o < 0
  · have H := hid (show signT o = [] by unfold signT; rw [if_pos h0])
    go_enter Tryd.func107, Tryd.ntmps107
    go_wp2_with fail
    go_ret
    exact ⟨by rw [H.out]; rfl, rfl⟩
  have d0 : decide (o < 0) = false := decide_eq_false h0
  by_cases h1 : 12 ≤ o
  · have H := hid (show signT o = [] by
      unfold signT; rw [if_neg h0, List.getD_eq_getElem?_getD, List.getElem?_eq_none (by simp [tsgnL]; omega)]; rfl)
    go_enter Tryd.func107, Tryd.ntmps107
    go_wp2_with fail
    go_ret
    exact ⟨by rw [H.out]; rfl, rfl⟩
  have d1 : decide (12 ≤ o) = false := decide_eq_false h1
  obtain ⟨j, rfl⟩ : ∃ j : Nat, o = (j : Int) := ⟨o.toNat, by omega⟩
  have hj : j < tsgnL.length := by show j < 12; omega
  have c := hO.out.2.2 j hj
  have H := hid (show signT (j : Int) = tsgnL[j] by
    unfold signT; rw [if_neg h0, List.getD_eq_getElem?_getD, Int.toNat_natCast, List.getElem?_eq_getElem hj]; rfl)
  have hj12 : j < 12 := hj
  clear hO
  generalize tsgnL[j] = x at *
  go_enter Tryd.func107, Tryd.ntmps107
  go_wp2_with fail
  go_ret
  exact ⟨by rw [H.out]; rfl, rfl⟩

theorem built_calls (o : Int) (w : World) :
    Calls Tryd.prog 62 #[.int .i64 o] w fun e w' => e = .returned (.tuple #[.string ⟨(builtT o).1.toArray⟩, .int .i64 (builtT o).2]) ∧ w = w' := by
  by_cases h : 1 ≤ o ∧ o ≤ 7
  · obtain rfl | rfl | rfl | rfl | rfl | rfl | rfl : o = 1 ∨ o = 2 ∨ o = 3 ∨ o = 4 ∨ o = 5 ∨ o = 6 ∨ o = 7 := by omega
    all_goals
      clear h
      go_enter Tryd.func62, Tryd.ntmps62
      go_wp2_with fail
      go_ret2
      exact ⟨rfl, rfl⟩
  · have H := hid (show builtT o = ([], 0) by
      unfold builtT
      by_cases h0 : o < 0
      · rw [if_pos h0]
      · rw [if_neg h0]
        by_cases h1 : o = 0
        · subst h1; rfl
        · rw [List.getD_eq_getElem?_getD, List.getElem?_eq_none (by simp [builtL]; omega)]; rfl)
    have e1 : (o == 1) = false := beq_eq_false_iff_ne.2 (by omega)
    have e2 : (o == 2) = false := beq_eq_false_iff_ne.2 (by omega)
    have e3 : (o == 3) = false := beq_eq_false_iff_ne.2 (by omega)
    have e4 : (o == 4) = false := beq_eq_false_iff_ne.2 (by omega)
    have e5 : (o == 5) = false := beq_eq_false_iff_ne.2 (by omega)
    have e6 : (o == 6) = false := beq_eq_false_iff_ne.2 (by omega)
    have e7 : (o == 7) = false := beq_eq_false_iff_ne.2 (by omega)
    clear h
    go_enter Tryd.func62, Tryd.ntmps62
    go_wp2_with fail
    go_ret2
    exact ⟨by rw [H.out]; rfl, rfl⟩

theorem kids_at {B : Nat} {w : World} {a : Option Addr} {c q : Nat} {ks : List Nd} (h : KidsIn B w (.slice a c q) ks) (hl : ks ≠ []) : ∃ b off, a = some ⟨b, off, none⟩ ∧ b < B ∧ NdsAt B w b ks off := by
  rcases h with ⟨_, _, _, h⟩ | ⟨b, off, cap, e, hb, h, _⟩
  · exact absurd h hl
  · injection e with e1 e2 e3
    exact ⟨b, off, e1, hb, h⟩

theorem list_two {α : Type} {l : List α} (h : l.length = 2) : ∃ a b, l = [a, b] := by
  match l, h with
  | [a, b], _ => exact ⟨a, b, rfl⟩
theorem list_three {α : Type} {l : List α} (h : l.length = 3) : ∃ a b c, l = [a, b, c] := by
  match l, h with
  | [a, b, c], _ => exact ⟨a, b, c, rfl⟩
end Go.Proofs.YtgdbaceehpcgbaaDoor

namespace Go.Proofs.YtgdbaceehpcgbaaDoor
open Go.RowKit

theorem str_beq (s t : ByteArray) : (s.toList == t.toList) = (s.data.toList == t.data.toList) := by rw [Lib.toList_data, Lib.toList_data]

set_option maxHeartbeats 1600000 in
theorem equal_calls (B : Nat) (w : World) (v v' : Value) (l l' : List ByteArray) (hB : B ≤ w.heap.size) (h1 : Hid (StrsIn B v l w)) (h2 : Hid (StrsIn B v' l' w)) (hc : l.length ≤ 1000000) :
    Calls Tryd.prog 90 #[v, v'] w fun e w' => e = .returned (.bool (namesB l l')) ∧ Below w.heap.size w w' := by
  obtain ⟨ao, cap, rfl, hss⟩ := strsIn_cases h1.out
  obtain ⟨ao', cap', rfl, hss'⟩ := strsIn_cases h2.out
  have S1 := hid hss
  have S2 := hid hss'
  clear hss hss' h1 h2
  by_cases hl : l.length = l'.length
  · have e0 : ((l.length : Int) != (l'.length : Int)) = false := by rw [hl]; simp
    go_enter Tryd.func90, Tryd.ntmps90
    go_wp2_with fail
    go_loopw [13] (fun i wr => ∃ j : Nat, j ≤ l.length ∧ i = .int .i64 j ∧ (∀ (q : Nat) (hq : q < l.length) (hq' : q < l'.length), q < j → l[q].data.toList = l'[q].data.toList) ∧ Below w.heap.size w wr) (fun i _ => l.length - (intOf i).toNat)
    case atStart => exact ⟨0, Nat.zero_le _, rfl, fun q _ _ h => absurd h (Nat.not_lt_zero _), Below.refl _ _⟩
    case round =>
      obtain ⟨j, hj, rfl, hq, hb⟩ := hrel
      have BB := hid hb
      by_cases hjl : j < l.length
      · have hjl' : j < l'.length := by omega
        obtain ⟨b, off, rfl, hbB, hat⟩ := S1.out.resolve_left (fun h => by rw [h] at hjl; cases hjl)
        obtain ⟨b', off', rfl, hbB', hat'⟩ := S2.out.resolve_left (fun h => by rw [h] at hjl'; cases hjl')
        have c0 := cell_keep (hb.mono hB) hbB (hat j hjl)
        have c1 := cell_keep (hb.mono hB) hbB' (hat' j hjl')
        have HN := hid (fun hn => names_not (l := l) (m := l') hjl hjl' hn)
        have HQ := hid (fun (he : l[j].data.toList = l'[j].data.toList) => show ∀ (q : Nat) (hq : q < l.length) (hq' : q < l'.length), q < j + 1 → l[q].data.toList = l'[q].data.toList from fun q h1 h2 h3 => by
          rcases Nat.lt_or_ge q j with h4 | h4
          · exact hq q h1 h2 h4
          · obtain rfl : q = j := by omega
            exact he)
        clear hq hat hat' hb S1 S2
        generalize l[j] = x at *
        generalize l'[j] = y at *
        cases hxy : (x.toList == y.toList) with
        | true =>
          have hne : (x.toList != y.toList) = false := by simp [bne, hxy]
          have H := hid (HQ.out (by rw [str_beq] at hxy; exact beq_iff_eq.1 hxy))
          clear HQ HN
          go_wp2_with fail
          go_region
          all_goals
            go_wp2_with fail
            go_roundw
            case rel => exact ⟨j + 1, by omega, by go_num, H.out, BB.out.drew⟩
            case measure => simp [intOf]; omega
        | false =>
          have hne : (x.toList != y.toList) = true := by simp [bne, hxy]
          have H := hid (HN.out (by rw [str_beq] at hxy; exact beq_eq_false_iff_ne.1 hxy))
          clear HQ HN
          go_wp2_with fail
          go_region
          all_goals
            go_wp2_with fail
            go_ret
            exact ⟨by rw [H.out]; rfl, BB.out.drew⟩
      · have H := hid (names_all hl (fun q h1 h2 => hq q h1 h2 (by omega)))
        clear hq hb
        go_wp2_with fail
        go_ret
        exact ⟨by rw [H.out]; rfl, BB.out⟩
  · have H := hid (names_short hl)
    have e0 : ((l.length : Int) != (l'.length : Int)) = true := by rw [bne_iff_ne]; omega
    clear hl
    go_enter Tryd.func90, Tryd.ntmps90
    go_wp2_with fail
    go_ret
    exact ⟨by rw [H.out]; rfl, Below.refl _ _⟩

set_option maxHeartbeats 1600000 in
theorem alike_calls (B : Nat) (w : World) (k o n : Int) (s : ByteArray) (ns : List ByteArray) (nv : Value) (a : Option Addr) (c q : Nat) (p k' o' n' : Int) (s' : ByteArray) (ns' : List ByteArray) (nv' : Value) (a' : Option Addr) (c' q' : Nat) (p' : Int)
    (hB : B ≤ w.heap.size) (h1 : Hid (StrsIn B nv ns w)) (h2 : Hid (StrsIn B nv' ns' w)) (hc : ns.length ≤ 1000000) :
    Calls Tryd.prog 79 #[.agg #[.int .i64 k, .int .i64 o, .int .i64 n, .string s, nv, .slice a c q, .int .i64 p], .agg #[.int .i64 k', .int .i64 o', .int .i64 n', .string s', nv', .slice a' c' q', .int .i64 p']] w fun e w' =>
      e = .returned (.bool (alikeB k o n s ns c k' o' n' s' ns' c')) ∧ Below w.heap.size w w' := by
  obtain ⟨ao, cap, rfl, _⟩ := strsIn_cases h1.out
  obtain ⟨ao', cap', rfl, _⟩ := strsIn_cases h2.out
  have hal := box2_below w (.cells #[.int .i64 k, .int .i64 o, .int .i64 n, .string s, .slice ao ns.length cap, .slice a c q, .int .i64 p] 47) (.cells #[.int .i64 k', .int .i64 o', .int .i64 n', .string s', .slice ao' ns'.length cap', .slice a' c' q', .int .i64 p'] 47)
  have AL := hid hal
  have T1 := hid (strsIn_on h1.out (hal.mono hB))
  have T2 := hid (strsIn_on h2.out (hal.mono hB))
  clear hal h1 h2
  cases ek : (k == k') with
  | false =>
    have H := hid (show alikeB k o n s ns c k' o' n' s' ns' c' = false by unfold alikeB; rw [ek]; simp)
    go_enter Tryd.func79, Tryd.ntmps79
    go_wp2_with fail
    go_ret
    exact ⟨by rw [H.out]; rfl, AL.out⟩
  | true =>
  cases eo : (o == o') with
  | false =>
    have H := hid (show alikeB k o n s ns c k' o' n' s' ns' c' = false by unfold alikeB; rw [eo]; simp)
    go_enter Tryd.func79, Tryd.ntmps79
    go_wp2_with fail
    go_ret
    exact ⟨by rw [H.out]; rfl, AL.out⟩
  | true =>
  cases en : (n == n') with
  | false =>
    have H := hid (show alikeB k o n s ns c k' o' n' s' ns' c' = false by unfold alikeB; rw [en]; simp)
    go_enter Tryd.func79, Tryd.ntmps79
    go_wp2_with fail
    go_ret
    exact ⟨by rw [H.out]; rfl, AL.out⟩
  | true =>
  cases es : (s.toList == s'.toList) with
  | false =>
    have es' := es
    rw [str_beq] at es'
    have H := hid (show alikeB k o n s ns c k' o' n' s' ns' c' = false by unfold alikeB; rw [es']; simp)
    clear es'
    go_enter Tryd.func79, Tryd.ntmps79
    go_wp2_with fail
    go_ret
    exact ⟨by rw [H.out]; rfl, AL.out⟩
  | true =>
    have es' := es
    rw [str_beq] at es'
    have H := hid (show alikeB k o n s ns c k' o' n' s' ns' c' = (namesB ns ns' && ((c : Int) == (c' : Int))) by
      unfold alikeB; rw [ek, eo, en, es', Bool.true_and, Bool.true_and, Bool.true_and, Bool.true_and]
      congr 1
      rw [Bool.eq_iff_iff, beq_iff_eq, beq_iff_eq]; omega)
    clear es'
    go_enter Tryd.func79, Tryd.ntmps79
    go_wp2_with fail
    refine (equal_calls B _ _ _ ns ns' (by simp; omega) T1 T2 hc).mono ?_
    rintro e w1 ⟨rfl, b1⟩
    have B1 := hid (below_in AL.out (by simp) b1)
    have hw := b1.size
    obtain ⟨g0, g1⟩ : w1.cell? ⟨w.heap.size, 5, none⟩ = some (.slice a c q) ∧ w1.cell? ⟨w.heap.size + 1, 5, none⟩ = some (.slice a' c' q') := by
      refine ⟨cell_keep b1 (by simp; omega) ?_, cell_keep b1 (by simp) ?_⟩
      · simp [World.cell?_alloc_past]
      · simp
    clear b1 AL T1 T2 hw
    generalize namesB ns ns' = nb at *
    cases nb
    · go_wp2_with fail
      go_ret
      exact ⟨by rw [H.out]; rfl, B1.out⟩
    · go_wp2_with fail
      go_ret
      exact ⟨by rw [H.out]; rfl, B1.out⟩

end Go.Proofs.YtgdbaceehpcgbaaDoor

namespace Go.Proofs.YtgdbaceehpcgbaaDoor
open Go.RowKit

def hasOpK (k : Int) : Bool := k == 9 || k == 10 || k == 17
def hasNumK (k : Int) : Bool := k == 2 || k == 3
def hasStrK (k : Int) : Bool := k == 4 || k == 5 || k == 13 || k == 16 || k == 21 || k == 22 || k == 23 || k == 25
def hasNsK (k : Int) : Bool := k == 7 || k == 8
def leafK (k : Int) : Bool := k == 1 || k == 6 || k == 2 || k == 3 || k == 4 || k == 5

theorem ret_n {fn : Func} {t : Tmp} (h : fn.results = #[.cell t 47]) {tmps : Array Value} {g : Nat} {w : World} {x0 x1 x2 x3 x4 x5 x6 : Value} (ht : tmps.getD t undef = .pointer (some ⟨g, 0, none⟩))
    (c : w.cell? ⟨g, 0, none⟩ = some x0 ∧ w.cell? ⟨g, 1, none⟩ = some x1 ∧ w.cell? ⟨g, 2, none⟩ = some x2 ∧ w.cell? ⟨g, 3, none⟩ = some x3 ∧ w.cell? ⟨g, 4, none⟩ = some x4 ∧ w.cell? ⟨g, 5, none⟩ = some x5 ∧ w.cell? ⟨g, 6, none⟩ = some x6) :
    (results fn tmps).run Tryd.prog w = .ok (.agg #[x0, x1, x2, x3, x4, x5, x6]) w := by
  rw [Array.getD_eq_getD_getElem?] at ht
  simp [results, h, ht, go_sem, asAddr, c.1, c.2.1, c.2.2.1, c.2.2.2.1, c.2.2.2.2.1, c.2.2.2.2.2.1, c.2.2.2.2.2.2]

theorem three_below (w : World) (x y z : Obj) : Below w.heap.size w (((w.alloc x).alloc y).alloc z) := (((Below.refl _ _).alloc (Nat.le_refl _) _).alloc (by simp) _).alloc (by simp; omega) _
theorem three_cells (w : World) (x z : Obj) (y0 y1 y2 y3 y4 y5 y6 : Value) :
    (((w.alloc x).alloc (.cells #[y0, y1, y2, y3, y4, y5, y6] 47)).alloc z).cell? ⟨w.heap.size + 1, 0, none⟩ = some y0 ∧ (((w.alloc x).alloc (.cells #[y0, y1, y2, y3, y4, y5, y6] 47)).alloc z).cell? ⟨w.heap.size + 1, 1, none⟩ = some y1 ∧
    (((w.alloc x).alloc (.cells #[y0, y1, y2, y3, y4, y5, y6] 47)).alloc z).cell? ⟨w.heap.size + 1, 2, none⟩ = some y2 ∧ (((w.alloc x).alloc (.cells #[y0, y1, y2, y3, y4, y5, y6] 47)).alloc z).cell? ⟨w.heap.size + 1, 3, none⟩ = some y3 ∧
    (((w.alloc x).alloc (.cells #[y0, y1, y2, y3, y4, y5, y6] 47)).alloc z).cell? ⟨w.heap.size + 1, 4, none⟩ = some y4 ∧ (((w.alloc x).alloc (.cells #[y0, y1, y2, y3, y4, y5, y6] 47)).alloc z).cell? ⟨w.heap.size + 1, 5, none⟩ = some y5 ∧
    (((w.alloc x).alloc (.cells #[y0, y1, y2, y3, y4, y5, y6] 47)).alloc z).cell? ⟨w.heap.size + 1, 6, none⟩ = some y6 := by
  refine ⟨?_, ?_, ?_, ?_, ?_, ?_, ?_⟩ <;> simp [World.cell?_alloc_past]

set_option maxHeartbeats 3200000 in
theorem bare_calls (w : World) (k o n : Int) (s : ByteArray) (a1 : Option Addr) (c1 q1 : Nat) (a2 : Option Addr) (c2 q2 : Nat) (p : Int) :
    Calls Tryd.prog 80 #[.agg #[.int .i64 k, .int .i64 o, .int .i64 n, .string s, .slice a1 c1 q1, .slice a2 c2 q2, .int .i64 p]] w fun e w' =>
      e = .returned (.agg #[.int .i64 k, .int .i64 (cond (hasOpK k) o 0), .int .i64 (cond (hasNumK k) n 0), .string (cond (hasStrK k) s ⟨#[]⟩), cond (hasNsK k) (.slice a1 c1 q1) (.slice none 0 0), cond (leafK k) (.slice none 0 0) (.slice a2 c2 q2), .int .i64 0]) ∧ Below w.heap.size w w' := by
  cases h1 : (k == 1) with
  | true =>
    obtain rfl := beq_iff_eq.1 h1
    clear h1
    go_enter Tryd.func80, Tryd.ntmps80
    go_wp2_with fail
    exact bodyPost_ret (ret_n (g := w.heap.size + 1) rfl rfl (three_cells w _ _ _ _ _ _ _ _ _)) rfl ⟨rfl, three_below w _ _ _⟩
  | false =>
  cases h6 : (k == 6) with
  | true =>
    obtain rfl := beq_iff_eq.1 h6
    clear h6
    go_enter Tryd.func80, Tryd.ntmps80
    go_wp2_with fail
    exact bodyPost_ret (ret_n (g := w.heap.size + 1) rfl rfl (three_cells w _ _ _ _ _ _ _ _ _)) rfl ⟨rfl, three_below w _ _ _⟩
  | false =>
  cases h2 : (k == 2) with
  | true =>
    obtain rfl := beq_iff_eq.1 h2
    clear h2
    go_enter Tryd.func80, Tryd.ntmps80
    go_wp2_with fail
    exact bodyPost_ret (ret_n (g := w.heap.size + 1) rfl rfl (three_cells w _ _ _ _ _ _ _ _ _)) rfl ⟨rfl, three_below w _ _ _⟩
  | false =>
  cases h3 : (k == 3) with
  | true =>
    obtain rfl := beq_iff_eq.1 h3
    clear h3
    go_enter Tryd.func80, Tryd.ntmps80
    go_wp2_with fail
    exact bodyPost_ret (ret_n (g := w.heap.size + 1) rfl rfl (three_cells w _ _ _ _ _ _ _ _ _)) rfl ⟨rfl, three_below w _ _ _⟩
  | false =>
  cases h4 : (k == 4) with
  | true =>
    obtain rfl := beq_iff_eq.1 h4
    clear h4
    go_enter Tryd.func80, Tryd.ntmps80
    go_wp2_with fail
    exact bodyPost_ret (ret_n (g := w.heap.size + 1) rfl rfl (three_cells w _ _ _ _ _ _ _ _ _)) rfl ⟨rfl, three_below w _ _ _⟩
  | false =>
  cases h5 : (k == 5) with
  | true =>
    obtain rfl := beq_iff_eq.1 h5
    clear h5
    go_enter Tryd.func80, Tryd.ntmps80
    go_wp2_with fail
    exact bodyPost_ret (ret_n (g := w.heap.size + 1) rfl rfl (three_cells w _ _ _ _ _ _ _ _ _)) rfl ⟨rfl, three_below w _ _ _⟩
  | false =>
  cases h13 : (k == 13) with
  | true =>
    obtain rfl := beq_iff_eq.1 h13
    clear h13
    go_enter Tryd.func80, Tryd.ntmps80
    go_wp2_with fail
    exact bodyPost_ret (ret_n (g := w.heap.size + 1) rfl rfl (three_cells w _ _ _ _ _ _ _ _ _)) rfl ⟨rfl, three_below w _ _ _⟩
  | false =>
  cases h16 : (k == 16) with
  | true =>
    obtain rfl := beq_iff_eq.1 h16
    clear h16
    go_enter Tryd.func80, Tryd.ntmps80
    go_wp2_with fail
    exact bodyPost_ret (ret_n (g := w.heap.size + 1) rfl rfl (three_cells w _ _ _ _ _ _ _ _ _)) rfl ⟨rfl, three_below w _ _ _⟩
  | false =>
  cases h21 : (k == 21) with
  | true =>
    obtain rfl := beq_iff_eq.1 h21
    clear h21
    go_enter Tryd.func80, Tryd.ntmps80
    go_wp2_with fail
    exact bodyPost_ret (ret_n (g := w.heap.size + 1) rfl rfl (three_cells w _ _ _ _ _ _ _ _ _)) rfl ⟨rfl, three_below w _ _ _⟩
  | false =>
  cases h22 : (k == 22) with
  | true =>
    obtain rfl := beq_iff_eq.1 h22
    clear h22
    go_enter Tryd.func80, Tryd.ntmps80
    go_wp2_with fail
    exact bodyPost_ret (ret_n (g := w.heap.size + 1) rfl rfl (three_cells w _ _ _ _ _ _ _ _ _)) rfl ⟨rfl, three_below w _ _ _⟩
  | false =>
  cases h23 : (k == 23) with
  | true =>
    obtain rfl := beq_iff_eq.1 h23
    clear h23
    go_enter Tryd.func80, Tryd.ntmps80
    go_wp2_with fail
    exact bodyPost_ret (ret_n (g := w.heap.size + 1) rfl rfl (three_cells w _ _ _ _ _ _ _ _ _)) rfl ⟨rfl, three_below w _ _ _⟩
  | false =>
  cases h25 : (k == 25) with
  | true =>
    obtain rfl := beq_iff_eq.1 h25
    clear h25
    go_enter Tryd.func80, Tryd.ntmps80
    go_wp2_with fail
    exact bodyPost_ret (ret_n (g := w.heap.size + 1) rfl rfl (three_cells w _ _ _ _ _ _ _ _ _)) rfl ⟨rfl, three_below w _ _ _⟩
  | false =>
  cases h7 : (k == 7) with
  | true =>
    obtain rfl := beq_iff_eq.1 h7
    clear h7
    go_enter Tryd.func80, Tryd.ntmps80
    go_wp2_with fail
    exact bodyPost_ret (ret_n (g := w.heap.size + 1) rfl rfl (three_cells w _ _ _ _ _ _ _ _ _)) rfl ⟨rfl, three_below w _ _ _⟩
  | false =>
  cases h8 : (k == 8) with
  | true =>
    obtain rfl := beq_iff_eq.1 h8
    clear h8
    go_enter Tryd.func80, Tryd.ntmps80
    go_wp2_with fail
    exact bodyPost_ret (ret_n (g := w.heap.size + 1) rfl rfl (three_cells w _ _ _ _ _ _ _ _ _)) rfl ⟨rfl, three_below w _ _ _⟩
  | false =>
  cases h9 : (k == 9) with
  | true =>
    obtain rfl := beq_iff_eq.1 h9
    clear h9
    go_enter Tryd.func80, Tryd.ntmps80
    go_wp2_with fail
    exact bodyPost_ret (ret_n (g := w.heap.size + 1) rfl rfl (three_cells w _ _ _ _ _ _ _ _ _)) rfl ⟨rfl, three_below w _ _ _⟩
  | false =>
  cases h10 : (k == 10) with
  | true =>
    obtain rfl := beq_iff_eq.1 h10
    clear h10
    go_enter Tryd.func80, Tryd.ntmps80
    go_wp2_with fail
    exact bodyPost_ret (ret_n (g := w.heap.size + 1) rfl rfl (three_cells w _ _ _ _ _ _ _ _ _)) rfl ⟨rfl, three_below w _ _ _⟩
  | false =>
  cases h17 : (k == 17) with
  | true =>
    obtain rfl := beq_iff_eq.1 h17
    clear h17
    go_enter Tryd.func80, Tryd.ntmps80
    go_wp2_with fail
    exact bodyPost_ret (ret_n (g := w.heap.size + 1) rfl rfl (three_cells w _ _ _ _ _ _ _ _ _)) rfl ⟨rfl, three_below w _ _ _⟩
  | false =>
  have H := hid (show hasOpK k = false ∧ hasNumK k = false ∧ hasStrK k = false ∧ hasNsK k = false ∧ leafK k = false by simp only [hasOpK, hasNumK, hasStrK, hasNsK, leafK, h1, h6, h2, h3, h4, h5, h13, h16, h21, h22, h23, h25, h7, h8, h9, h10, h17, Bool.or_self]; trivial)
  rw [H.out.1, H.out.2.1, H.out.2.2.1, H.out.2.2.2.1, H.out.2.2.2.2]
  go_enter Tryd.func80, Tryd.ntmps80
  go_wp2_with fail
  exact bodyPost_ret (ret_n (g := w.heap.size + 1) rfl rfl (three_cells w _ _ _ _ _ _ _ _ _)) rfl ⟨rfl, three_below w _ _ _⟩

end Go.Proofs.YtgdbaceehpcgbaaDoor
