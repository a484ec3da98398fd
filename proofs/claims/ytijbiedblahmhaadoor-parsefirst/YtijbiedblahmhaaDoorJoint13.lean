/- Names in a row that grows. Whether what was read last is a place, or can become a value. A delete behind its key. -/
import Derived.Test.YtijbiedblahmhaaDoorPsCall
import Derived.Test.YtijbiedblahmhaaDoorJoint5
import Derived.Test.YtijbiedblahmhaaDoorPsBetw
namespace Go.Proofs.YtijbiedblahmhaaDoor
open Go.RowKit

/-- a slice of texts of one's own that may grow -/
def SRow (lo : Nat) (ok : Nat → Prop) (w : World) (v : Value) (ns : List ByteArray) : Prop :=
  w.ownsRow lo 9 1 v ns.length (ns.map Value.string) ∧ ∀ g, v.ownBlock = some g → ok g
theorem srow_nil (lo : Nat) (ok : Nat → Prop) (w : World) : SRow lo ok w (.slice none 0 0) [] := ⟨World.ownsRow_nil w _ _ _, fun g h => by simp [Value.ownBlock] at h⟩
theorem krow_nil (lo : Nat) (ok : Nat → Prop) (w : World) : KRow lo ok w (.slice none 0 0) [] := ⟨[], World.ownsRow_nil w _ _ _, rfl, fun g h => by simp [Value.ownBlock] at h⟩
theorem srow_own {lo : Nat} {ok : Nat → Prop} {w : World} {v : Value} {ns : List ByteArray} (h : SRow lo ok w v ns) : ∀ g, v.ownBlock = some g → ok g ∧ lo ≤ g ∧ g < w.heap.size :=
  fun g hv => ⟨h.2 g hv, (h.1.lt g hv).1, (h.1.lt g hv).2⟩
theorem srow_shape {lo : Nat} {ok : Nat → Prop} {w : World} {v : Value} {ns : List ByteArray} (h : SRow lo ok w v ns) : ∃ ao cap, v = .slice ao ns.length cap := by
  rcases h.1.2 with ⟨h1, h2⟩ | ⟨g, cap, cur, h1, _⟩
  · exact ⟨none, 0, by rw [h1, h2]⟩
  · exact ⟨_, cap, h1⟩
theorem srow_strs {lo : Nat} {ok : Nat → Prop} {w : World} {v : Value} {ns : List ByteArray} (h : SRow lo ok w v ns) : StrsW (OwnO ok w) v ns w := by
  rcases h.1.2 with ⟨h1, h2⟩ | ⟨g, cap, cur, h1, h2, h3, h4, h5, h6, h7⟩
  · have : ns = [] := List.length_eq_zero_iff.1 h2
    subst this
    exact .inl ⟨none, 0, h1, rfl⟩
  · refine .inr ⟨g, 0, cap, h1, ⟨h.2 g (by rw [h1]; rfl), blk_lt (show Blk g 9 cur w from h3)⟩, fun i hi => ?_, h4⟩
    rw [Nat.zero_add, blk_cell (show Blk g 9 cur w from h3)]
    have e := congrArg (fun l => l[i]?) h7
    simp only [List.getElem?_take, Array.getElem?_toList, List.getElem?_map] at e
    rw [if_pos (by omega)] at e
    rw [e]
    simp [hi]
theorem srow_keep {lo : Nat} {ok : Nat → Prop} {a c : World} {v : Value} {ns : List ByteArray} (h : SRow lo ok a v ns) (hk : ∀ b, v.ownBlock = some b → c.heap[b]? = a.heap[b]?) : SRow lo ok c v ns := by
  refine ⟨⟨h.1.1, ?_⟩, h.2⟩
  rcases h.1.2 with h1 | ⟨g, cap, cur, h1, h2, h3, h4⟩
  · exact .inl h1
  · refine .inr ⟨g, cap, cur, h1, h2, ?_, h4⟩
    rw [hk g (by rw [h1]; rfl)]; exact h3
theorem srow_but {lo P : Nat} {ok : Nat → Prop} {a c : World} {v : Value} {ns : List ByteArray} (h : SRow lo ok a v ns) (k : But P a c) (hp : ¬ ok P) : SRow lo ok c v ns :=
  srow_keep h (fun b hb => k.block b (srow_own h b hb).2.2 (fun e => hp (e ▸ (srow_own h b hb).1)))
theorem srow_below {lo : Nat} {ok : Nat → Prop} {a c : World} {v : Value} {ns : List ByteArray} (h : SRow lo ok a v ns) (k : Below a.heap.size a c) : SRow lo ok c v ns :=
  srow_keep h (fun b hb => k.block b (srow_own h b hb).2.2)
theorem srow_grown {lo : Nat} {ok : Nat → Prop} {a c : World} {v : Value} {ns : List ByteArray} {row : Option Nat} (h : SRow lo ok a v ns) (k : a.grownBy c row) (hne : ∀ b, v.ownBlock = some b → some b ≠ row) : SRow lo ok c v ns :=
  srow_keep h (fun b hb => k.block b (srow_own h b hb).2.2 (hne b hb))
/-- the nodes' row while another one grows -/
theorem krow_move {lo : Nat} {ok ok' : Nat → Prop} {a c : World} {v : Value} {ks : List Nd} (h : KRow lo ok a v ks) (hs : a.heap.size ≤ c.heap.size) (hk : ∀ b, ok b → b < a.heap.size → ok' b ∧ c.heap[b]? = a.heap[b]?) : KRow lo ok' c v ks := by
  obtain ⟨cs, hown, hr, hg⟩ := h
  refine ⟨cs, ⟨hown.1, ?_⟩, rowN_keep (fun b hb => ⟨⟨(hk b hb.1 hb.2.1).1, Nat.lt_of_lt_of_le hb.2.1 hs, hb.2.2⟩, (hk b hb.1 hb.2.1).2⟩) hr, fun g hv => (hk g (hg g hv) (hown.lt g hv).2).1⟩
  rcases hown.2 with h1 | ⟨g, cap, cur, h1, h2, h3, h4⟩
  · exact .inl h1
  · refine .inr ⟨g, cap, cur, h1, h2, ?_, h4⟩
    rw [(hk g (hg g (by rw [h1]; rfl)) (blk_lt (show Blk g 26 cur a from h3))).2]; exact h3
theorem infoS : ∃ i0, Tryd.prog.info? 9 = some i0 ∧ i0.zero = some (.string ⟨#[]⟩) ∧ i0.size = 1 ∧ i0.bytes = 16 :=
  info_parts (show (Tryd.prog.info? 9).map (fun i => (i.zero, i.size, i.bytes)) = some (some (.string ⟨#[]⟩), 1, 16) by kernel_rfl)
theorem underS : Tryd.prog.underlying 23 = some (.slice 9) := by kernel_rfl
theorem sl_cells {w : World} {z : Nat} {x : ByteArray} (h : Blk z 9 #[.string x] w) : ∀ (j : Nat) (u : Value), ([.string x] : List Value)[j]? = some u → w.cell? ((⟨z, 0, none⟩ : Addr).add j) = some u := by
  intro j u hj
  have e : (⟨z, 0, none⟩ : Addr).add j = ⟨z, j, none⟩ := by unfold Addr.add; split <;> simp_all
  rw [e, blk_cell h]
  simpa using hj
theorem sl_one {x : ByteArray} : ∀ u ∈ ([.string x] : List Value), u.oneCell' = true := by
  intro u hu
  simp only [List.mem_cons, List.not_mem_nil, or_false] at hu
  subst hu; rfl
/-- other blocks than the names' -/
def OkN (ok : Nat → Prop) (nv : Value) (b : Nat) : Prop := ok b ∧ some b ≠ nv.ownBlock
/-- behind an append of a name -/
theorem sput {lo g cap nb pb : Nat} {ok : Nat → Prop} {a b : World} {v kv : Value} {ns : List ByteArray} {ks : List Nd} {x : ByteArray} (hown : b.ownsRow lo 9 1 (.slice (some ⟨g, 0, none⟩) (ns.length + 1) cap) (ns.length + 1) (ns.map Value.string ++ [.string x])) (hgr : a.grownBy b v.ownBlock) (hat : v.ownBlock = some g ∨ g = a.heap.size)
    (hS : SRow lo ok a v ns) (hR : KRow lo (OkN ok v) a kv ks) (hup : ok a.heap.size) (hlo : lo ≤ a.heap.size) (h1 : nb < a.heap.size) (h2 : pb < a.heap.size) (nk : ¬ ok nb) (nq : ¬ ok pb) :
    SRow lo ok b (.slice (some ⟨g, 0, none⟩) (ns.length + 1) cap) (ns ++ [x]) ∧ KRow lo (OkN ok (.slice (some ⟨g, 0, none⟩) (ns.length + 1) cap)) b kv ks ∧ lo ≤ g ∧ g ≠ nb ∧ g ≠ pb := by
  refine ⟨⟨by simpa using hown, fun k hk => ?_⟩, krow_move hR hgr.size (fun k hk hlt => ⟨⟨hk.1, ?_⟩, hgr.block k hlt hk.2⟩), ?_, ?_, ?_⟩
  · simp [Value.ownBlock] at hk
    subst hk
    rcases hat with h | h
    · exact hS.2 _ h
    · exact h ▸ hup
  · intro e
    simp [Value.ownBlock] at e
    subst e
    rcases hat with h | h
    · exact hk.2 h.symm
    · omega
  · rcases hat with h | h
    · exact (srow_own hS g h).2.1
    · omega
  · rcases hat with h | h
    · exact fun e => nk (e ▸ (srow_own hS g h).1)
    · omega
  · rcases hat with h | h
    · exact fun e => nq (e ▸ (srow_own hS g h).1)
    · omega

end Go.Proofs.YtijbiedblahmhaaDoor

namespace Go.Proofs.YtijbiedblahmhaaDoor
open Go.RowKit

/-- is it a place? -/
def plB (x : Nd) (u : Tok) : Bool := (x.kind == 13 || x.kind == 14) && !(u.text.data.toList == [41])
/-- can it become a value? -/
def caB (x : Nd) (u : Tok) : Bool := plB x u || (x.kind == 5 && !(u.text.data.toList == [41]))

set_option maxRecDepth 100000 in
set_option maxHeartbeats 3200000 in
theorem place_calls (P : Nat) (L l pre : List Tok) (u : Tok) (x : Nd) (a1 a2 : Option Addr) (q1 q2 : Nat) (w : World) (H : Hid (PSt P L w l)) (hp : pre ++ u :: l = L) :
    Calls Tryd.prog 58 #[.pointer (some ⟨P, 0, none⟩), ndv x (.slice a1 x.names.length q1) (.slice a2 x.kids.length q2)] w fun e w' => e = .returned (.bool (plB x u)) ∧ Below w.heap.size w w' := by
  have A := hid ((Below.refl _ w).alloc (Nat.le_refl _) (.cells (ndc x (.slice a1 x.names.length q1) (.slice a2 x.kids.length q2)) 26))
  have S0 := hid (H.out.on A.out)
  have X0 := hid (blk_new w 26 (ndc x (.slice a1 x.names.length q1) (.slice a2 x.kids.length q2)))
  have HB := hid (fun w' (S : Hid (PSt P L w' l)) => brackets_calls P L l pre u w' S hp)
  unfold plB
  generalize (u.text.data.toList == [41]) = ub at *
  clear H hp
  unfold ndv
  unfold ndc at *
  generalize x.kind = k at *
  by_cases h13 : k = 13
  · have h13' : (k == 13) = true := by simp [h13]
    rw [h13', Bool.true_or, Bool.true_and]
    clear h13'
    subst h13
    obtain ⟨c0, c1, c2, c3, c4, c5, c6⟩ := cells7 X0.out
    go_enter Tryd.func58, Tryd.ntmps58
    go_wp2_with fail
    refine (HB.out _ S0).mono ?_
    rintro e w1 ⟨rfl, b1⟩
    have A1 := hid (below_in A.out (Nat.le_refl _) b1)
    clear b1 S0 A X0 HB
    go_wp2_with fail
    go_ret
    exact ⟨rfl, A1.out⟩
  · have h13' : (k == 13) = false := by simp [h13]
    by_cases h14 : k = 14
    · have h14' : (k == 14) = true := by simp [h14]
      rw [h13', h14', Bool.or_true, Bool.true_and]
      clear h13' h14' h13
      subst h14
      obtain ⟨c0, c1, c2, c3, c4, c5, c6⟩ := cells7 X0.out
      go_enter Tryd.func58, Tryd.ntmps58
      go_wp2_with fail
      refine (HB.out _ S0).mono ?_
      rintro e w1 ⟨rfl, b1⟩
      have A1 := hid (below_in A.out (Nat.le_refl _) b1)
      clear b1 S0 A X0 HB
      go_wp2_with fail
      go_ret
      exact ⟨rfl, A1.out⟩
    · have h14' : (k == 14) = false := by simp [h14]
      rw [h13', h14', Bool.or_false, Bool.false_and]
      clear h13' h14'
      obtain ⟨c0, c1, c2, c3, c4, c5, c6⟩ := cells7 X0.out
      go_enter Tryd.func58, Tryd.ntmps58
      go_wp2_with fail
      go_ret
      exact ⟨rfl, A.out⟩

set_option maxRecDepth 100000 in
set_option maxHeartbeats 3200000 in
theorem can_calls (P : Nat) (L l pre : List Tok) (u : Tok) (x : Nd) (a1 a2 : Option Addr) (q1 q2 : Nat) (w : World) (H : Hid (PSt P L w l)) (hp : pre ++ u :: l = L) :
    Calls Tryd.prog 46 #[.pointer (some ⟨P, 0, none⟩), ndv x (.slice a1 x.names.length q1) (.slice a2 x.kids.length q2)] w fun e w' => e = .returned (.bool (caB x u)) ∧ Below w.heap.size w w' := by
  have A := hid ((Below.refl _ w).alloc (Nat.le_refl _) (.cells (ndc x (.slice a1 x.names.length q1) (.slice a2 x.kids.length q2)) 26))
  have S0 := hid (H.out.on A.out)
  have X0 := hid (blk_new w 26 (ndc x (.slice a1 x.names.length q1) (.slice a2 x.kids.length q2)))
  have HB := hid (fun w' (S : Hid (PSt P L w' l)) => brackets_calls P L l pre u w' S hp)
  have HQ := hid (fun w' (S : Hid (PSt P L w' l)) => place_calls P L l pre u x a1 a2 q1 q2 w' S hp)
  unfold caB
  generalize plB x u = pb at *
  generalize (u.text.data.toList == [41]) = ub at *
  clear H hp
  unfold ndv at *
  unfold ndc at *
  generalize x.kind = k at *
  cases pb with
  | true =>
    rw [Bool.true_or]
    obtain ⟨c0, c1, c2, c3, c4, c5, c6⟩ := cells7 X0.out
    go_enter Tryd.func46, Tryd.ntmps46
    go_wp2_with fail
    refine (HQ.out _ S0).mono ?_
    rintro e w1 ⟨rfl, b1⟩
    have A1 := hid (below_in A.out (Nat.le_refl _) b1)
    clear b1 S0 A X0 HB HQ
    go_wp2_with fail
    go_ret
    exact ⟨rfl, A1.out⟩
  | false =>
    rw [Bool.false_or]
    by_cases h5 : k = 5
    · have h5' : (k == 5) = true := by simp [h5]
      rw [h5', Bool.true_and]
      clear h5'
      subst h5
      obtain ⟨c0, c1, c2, c3, c4, c5, c6⟩ := cells7 X0.out
      go_enter Tryd.func46, Tryd.ntmps46
      go_wp2_with fail
      refine (HQ.out _ S0).mono ?_
      rintro e w1 ⟨rfl, b1⟩
      have A1 := hid (below_in A.out (Nat.le_refl _) b1)
      have S1 := hid (S0.out.on b1)
      have X1 := hid (blk_on X0.out b1)
      obtain ⟨d0, d1, d2, d3, d4, d5, d6⟩ := cells7 X1.out
      clear b1 S0 A X0 HQ c0 c1 c2 c3 c4 c5 c6
      go_wp2_with fail
      refine (HB.out _ S1).mono ?_
      rintro e w2 ⟨rfl, b2⟩
      have A2 := hid (below_in A1.out (Nat.le_refl _) b2)
      clear b2 S1 A1 X1 HB d0 d1 d2 d3 d4 d5 d6
      go_wp2_with fail
      go_ret
      exact ⟨rfl, A2.out⟩
    · have h5' : (k == 5) = false := by simp [h5]
      rw [h5', Bool.false_and]
      clear h5'
      obtain ⟨c0, c1, c2, c3, c4, c5, c6⟩ := cells7 X0.out
      go_enter Tryd.func46, Tryd.ntmps46
      go_wp2_with fail
      refine (HQ.out _ S0).mono ?_
      rintro e w1 ⟨rfl, b1⟩
      have A1 := hid (below_in A.out (Nat.le_refl _) b1)
      have X1 := hid (blk_on X0.out b1)
      obtain ⟨d0, d1, d2, d3, d4, d5, d6⟩ := cells7 X1.out
      clear b1 S0 A X0 HQ HB c0 c1 c2 c3 c4 c5 c6
      go_wp2_with fail
      go_ret
      exact ⟨rfl, A1.out⟩

end Go.Proofs.YtijbiedblahmhaaDoor

namespace Go.Proofs.YtijbiedblahmhaaDoor
open Go.RowKit

theorem ndR_kids {lo : Nat} {w : World} {x : Nd} {nv kv : Value} (h : NdR lo w x nv kv) : KdR lo w kv x.kids := by
  obtain ⟨k, o, n, s, ns, ks, p⟩ := x
  exact (ndR_mk1 h).2
/-- what was read last, in the whole row -/
theorem last_of {P : Nat} {L l l' : List Tok} {w : World} {x : Nd} {b : Bool} (H : PSt P L w l) (h : Q1 l x b l') : ∃ pre u, pre ++ u :: l' = L ∧ plB x u = decide (b = true ∧ x.kind ≠ 5) ∧ caB x u = b := by
  obtain ⟨_, pre, u, rfl, _, h1, h2⟩ := h
  obtain ⟨p0, hp0⟩ := H.suf
  refine ⟨p0 ++ pre, u, by rw [← hp0]; simp, ?_, ?_⟩
  · unfold plB
    cases b with
    | true =>
      have hb := h2 rfl
      have ht : u.text.data.toList ≠ [41] := (h1 hb).1 rfl
      have ht' : (u.text.data.toList == [41]) = false := by simpa using ht
      rw [ht']
      rcases hb with h | h | h <;> simp [h]
    | false =>
      by_cases hb : bareK x
      · have ht : u.text.data.toList = [41] := by
          apply Classical.byContradiction
          intro hn
          cases (h1 hb).2 hn
        simp [ht]
      · unfold bareK at hb
        simp only [not_or] at hb
        simp [hb.2.1, hb.2.2]
  · unfold caB plB
    cases b with
    | true =>
      have hb := h2 rfl
      have ht : u.text.data.toList ≠ [41] := (h1 hb).1 rfl
      have ht' : (u.text.data.toList == [41]) = false := by simpa using ht
      rw [ht']
      rcases hb with h | h | h <;> simp [h]
    | false =>
      by_cases hb : bareK x
      · have ht : u.text.data.toList = [41] := by
          apply Classical.byContradiction
          intro hn
          cases (h1 hb).2 hn
        simp [ht]
      · unfold bareK at hb
        simp only [not_or] at hb
        simp [hb.1, hb.2.1, hb.2.2]

/-- a delete behind its key -/
def pDel (f : Nat) (l : List Tok) : PR := (pPost f l).bind fun e b l => if b = true ∧ e.kind ≠ 5 then .ok (if e.kind = 13 then ndS 25 e.str e.kids else ndK 26 e.kids) false l else .bad l

set_option maxRecDepth 100000 in
set_option maxHeartbeats 3200000 in
theorem del_calls (f : Nat) (hR : PostC f) (P : Nat) (L l : List Tok) (w : World) (hf : 20 * l.length + 3 ≤ f) (H : Hid (PSt P L w l)) :
    Calls Tryd.prog 45 #[.pointer (some ⟨P, 0, none⟩)] w (Reads P L w (pDel f l)) := by
  have A := hid ((Below.refl _ w).alloc (Nat.le_refl _) (.cells znd 26))
  have S0 := hid (H.out.on A.out)
  have G0 := hid (blk_new w 26 znd)
  have hP := H.out.lt
  have HC := hid (fun w' S => hR P L l w' hf S)
  have HM := hid ((may f).post l (pst_gt H.out))
  have HL := hid (fun (x : Nd) (b : Bool) (l' : List Tok) (h : Q1 l x b l') => last_of H.out h)
  unfold znd at *
  unfold pDel
  clear H hR
  cases hq : pPost f l with
  | bad l' =>
    rw [hq] at HC
    rw [PR.bind_bad]
    clear HM HL
    go_enter Tryd.func45, Tryd.ntmps45
    go_wp2_with fail
    refine (HC.out _ S0).mono ?_
    rintro e w2 ⟨rfl, s2, b2⟩
    have S9 := hid s2
    have B9 := hid ((But.of A.out).trans b2)
    clear s2 b2 S0 A G0 HC
    unfold gaveUp
    go_wp2_with fail
    exact ⟨rfl, rfl, S9.out, B9.out⟩
  | ok x b l' =>
    rw [hq] at HC HM
    rw [PR.bind_ok]
    obtain ⟨pre, u, he, hp, _⟩ := HL.out x b l' HM.out
    have HE := hid he
    clear he HL HM
    by_cases hb : b = true ∧ x.kind ≠ 5
    · rw [if_pos hb]
      have hp' : plB x u = true := by rw [hp]; simpa using hb
      have HP := hid hp'
      have hbk := hb.2
      have h34 : x.kind = 13 ∨ x.kind = 14 := by
        unfold plB at hp'
        simp at hp'
        exact hp'.1
      clear hp hp' hb hbk
      by_cases h13 : x.kind = 13
      · rw [if_pos h13]
        have H13 := hid h13
        have h13b : (x.kind == 13) = true := by simp [h13]
        clear h13 h34
        go_enter Tryd.func45, Tryd.ntmps45
        go_wp2_with fail
        refine (HC.out _ S0).mono ?_
        rintro e w1 ⟨⟨nv, kv, rfl, n1⟩, s1, b1⟩
        obtain ⟨a1, q1, a2, q2, rfl, rfl⟩ := ndR_shape n1
        have hz1 := b1.size
        simp only [World.size_alloc] at hz1
        have AA := (Below.refl _ w1).alloc (Nat.le_refl _) (.cells (ndc x (.slice a1 x.names.length q1) (.slice a2 x.kids.length q2)) 26)
        have S1 := hid (s1.on AA)
        have B1 := hid (((But.of (P := P) A.out).trans b1).trans (But.of AA))
        have G1 := hid (blk_on (blk_but G0.out b1 (by omega)) AA)
        have V1 := hid (blk_new w1 26 (ndc x (.slice a1 x.names.length q1) (.slice a2 x.kids.length q2)))
        have N1 := hid (ndR_aft (aft_below AA) (ndR_low (lo' := w.heap.size + 1) (by simp) n1))
        have HQ := hid (fun w' (S : Hid (PSt P L w' l')) => place_calls P L l' pre u x a1 a2 q1 q2 w' S HE.out)
        rw [HP.out] at HQ
        clear s1 b1 n1 AA S0 A G0 HC HE HP
        unfold ndv at *
        unfold ndc at *
        obtain ⟨c0, c1, c2, c3, c4, c5, c6⟩ := cells7 V1.out
        go_wp2_with fail
        refine (HQ.out _ S1).mono ?_
        rintro e w2 ⟨rfl, b2⟩
        have S2 := hid (S1.out.on b2)
        have B2 := hid (B1.out.trans (But.of b2))
        have G2 := hid (blk_on G1.out b2)
        have V2 := hid (blk_on V1.out b2)
        have N2 := hid (ndR_aft (aft_below b2) N1.out)
        have hz2 := b2.size
        simp only [World.size_alloc] at hz2
        clear b2 S1 B1 G1 V1 N1 HQ c0 c1 c2 c3 c4 c5 c6
        obtain ⟨c0, c1, c2, c3, c4, c5, c6⟩ := cells7 V2.out
        obtain ⟨r0, r1, r2, r3, r4, r5, r6⟩ := cells7 G2.out
        obtain ⟨u0, u1, u2, u3, u4, u5, u6⟩ := frees7 G2.out
        have hg2 := blk_lt G2.out
        have hv2 := blk_lt V2.out
        go_wp2_with fail
        have Z := fin_put hP (Nat.le_refl _) S2.out B2.out G2.out (.int .i64 25) (.int .i64 0) (.int .i64 0) (.string x.str) (.slice none 0 0) (.slice a2 x.kids.length q2) (.int .i64 0)
        exact bodyPost_ret (ret_nd rfl rfl Z.1) rfl ⟨⟨_, _, rfl, ndR_mk2 ⟨st_nil, kdR_low (Nat.le_succ _) (kdR_aft (put7_aft w2 (Nat.lt_succ_self _) _ _ _ _ _ _ _) (ndR_kids N2.out))⟩⟩, Z.2.1, Z.2.2⟩
      · rw [if_neg h13]
        have h13b : (x.kind == 13) = false := by simp [h13]
        clear h13 h34
        go_enter Tryd.func45, Tryd.ntmps45
        go_wp2_with fail
        refine (HC.out _ S0).mono ?_
        rintro e w1 ⟨⟨nv, kv, rfl, n1⟩, s1, b1⟩
        obtain ⟨a1, q1, a2, q2, rfl, rfl⟩ := ndR_shape n1
        have hz1 := b1.size
        simp only [World.size_alloc] at hz1
        have AA := (Below.refl _ w1).alloc (Nat.le_refl _) (.cells (ndc x (.slice a1 x.names.length q1) (.slice a2 x.kids.length q2)) 26)
        have S1 := hid (s1.on AA)
        have B1 := hid (((But.of (P := P) A.out).trans b1).trans (But.of AA))
        have G1 := hid (blk_on (blk_but G0.out b1 (by omega)) AA)
        have V1 := hid (blk_new w1 26 (ndc x (.slice a1 x.names.length q1) (.slice a2 x.kids.length q2)))
        have N1 := hid (ndR_aft (aft_below AA) (ndR_low (lo' := w.heap.size + 1) (by simp) n1))
        have HQ := hid (fun w' (S : Hid (PSt P L w' l')) => place_calls P L l' pre u x a1 a2 q1 q2 w' S HE.out)
        rw [HP.out] at HQ
        clear s1 b1 n1 AA S0 A G0 HC HE HP
        unfold ndv at *
        unfold ndc at *
        obtain ⟨c0, c1, c2, c3, c4, c5, c6⟩ := cells7 V1.out
        go_wp2_with fail
        refine (HQ.out _ S1).mono ?_
        rintro e w2 ⟨rfl, b2⟩
        have S2 := hid (S1.out.on b2)
        have B2 := hid (B1.out.trans (But.of b2))
        have G2 := hid (blk_on G1.out b2)
        have V2 := hid (blk_on V1.out b2)
        have N2 := hid (ndR_aft (aft_below b2) N1.out)
        have hz2 := b2.size
        simp only [World.size_alloc] at hz2
        clear b2 S1 B1 G1 V1 N1 HQ c0 c1 c2 c3 c4 c5 c6
        obtain ⟨c0, c1, c2, c3, c4, c5, c6⟩ := cells7 V2.out
        obtain ⟨r0, r1, r2, r3, r4, r5, r6⟩ := cells7 G2.out
        obtain ⟨u0, u1, u2, u3, u4, u5, u6⟩ := frees7 G2.out
        have hg2 := blk_lt G2.out
        have hv2 := blk_lt V2.out
        go_wp2_with fail
        have Z := fin_put hP (Nat.le_refl _) S2.out B2.out G2.out (.int .i64 26) (.int .i64 0) (.int .i64 0) (.string ⟨#[]⟩) (.slice none 0 0) (.slice a2 x.kids.length q2) (.int .i64 0)
        exact bodyPost_ret (ret_nd rfl rfl Z.1) rfl ⟨⟨_, _, rfl, ndR_mk2 ⟨st_nil, kdR_low (Nat.le_succ _) (kdR_aft (put7_aft w2 (Nat.lt_succ_self _) _ _ _ _ _ _ _) (ndR_kids N2.out))⟩⟩, Z.2.1, Z.2.2⟩
    · rw [if_neg hb]
      have HP := hid (show plB x u = false by rw [hp]; simpa using hb)
      clear hp hb
      go_enter Tryd.func45, Tryd.ntmps45
      go_wp2_with fail
      refine (HC.out _ S0).mono ?_
      rintro e w1 ⟨⟨nv, kv, rfl, n1⟩, s1, b1⟩
      obtain ⟨a1, q1, a2, q2, rfl, rfl⟩ := ndR_shape n1
      have hz1 := b1.size
      simp only [World.size_alloc] at hz1
      have AA := (Below.refl _ w1).alloc (Nat.le_refl _) (.cells (ndc x (.slice a1 x.names.length q1) (.slice a2 x.kids.length q2)) 26)
      have S1 := hid (s1.on AA)
      have B1 := hid (((But.of (P := P) A.out).trans b1).trans (But.of AA))
      have G1 := hid (blk_on (blk_but G0.out b1 (by omega)) AA)
      have V1 := hid (blk_new w1 26 (ndc x (.slice a1 x.names.length q1) (.slice a2 x.kids.length q2)))
      have N1 := hid (ndR_aft (aft_below AA) (ndR_low (lo' := w.heap.size + 1) (by simp) n1))
      have HQ := hid (fun w' (S : Hid (PSt P L w' l')) => place_calls P L l' pre u x a1 a2 q1 q2 w' S HE.out)
      rw [HP.out] at HQ
      clear s1 b1 n1 AA S0 A G0 HC HE HP
      unfold ndv at *
      unfold ndc at *
      obtain ⟨c0, c1, c2, c3, c4, c5, c6⟩ := cells7 V1.out
      go_wp2_with fail
      refine (HQ.out _ S1).mono ?_
      rintro e w2 ⟨rfl, b2⟩
      have S2 := hid (S1.out.on b2)
      have B2 := hid (B1.out.trans (But.of b2))
      have G2 := hid (blk_on G1.out b2)
      have V2 := hid (blk_on V1.out b2)
      have N2 := hid (ndR_aft (aft_below b2) N1.out)
      have hz2 := b2.size
      simp only [World.size_alloc] at hz2
      clear b2 S1 B1 G1 V1 N1 HQ c0 c1 c2 c3 c4 c5 c6
      obtain ⟨c0, c1, c2, c3, c4, c5, c6⟩ := cells7 V2.out
      obtain ⟨r0, r1, r2, r3, r4, r5, r6⟩ := cells7 G2.out
      obtain ⟨u0, u1, u2, u3, u4, u5, u6⟩ := frees7 G2.out
      have hg2 := blk_lt G2.out
      have hv2 := blk_lt V2.out
      go_wp2_with fail
      refine (giveup_calls P w2).mono ?_
      rintro e w3 ⟨rfl, rfl⟩
      unfold gaveUp
      go_wp2_with fail
      exact ⟨rfl, rfl, S2.out, B2.out⟩

end Go.Proofs.YtijbiedblahmhaaDoor
