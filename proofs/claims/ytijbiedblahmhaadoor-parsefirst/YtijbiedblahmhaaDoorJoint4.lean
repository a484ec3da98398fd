/- Two with a sign between them. Parts with signs of one rank between them. -/
import Derived.Test.YtijbiedblahmhaaDoorJoint3
namespace Go.Proofs.YtijbiedblahmhaaDoor
open Go.RowKit

theorem sign_apart {i j : Nat} (h1 : 1 ≤ i) (h2 : i < j) (h3 : j ≤ 11) : (signT (i : Int) == signT (j : Int)) = false := by
  have key : ∀ j : Nat, j ≤ 11 → ∀ i : Nat, i < j → 1 ≤ i → (signT (i : Int) == signT (j : Int)) = false := by
    intro j hj
    obtain rfl | rfl | rfl | rfl | rfl | rfl | rfl | rfl | rfl | rfl | rfl | rfl : j = 0 ∨ j = 1 ∨ j = 2 ∨ j = 3 ∨ j = 4 ∨ j = 5 ∨ j = 6 ∨ j = 7 ∨ j = 8 ∨ j = 9 ∨ j = 10 ∨ j = 11 := by omega
    all_goals decide
  exact key j h3 i h2 h1

set_option maxHeartbeats 3200000 in
theorem number_calls (o : Nat) (h1 : 1 ≤ o) (h11 : o ≤ 11) (s : ByteArray) (hs : s.data.toList = signT (o : Int)) (B : Nat) (w : World) (hO : Hid (Ok B w)) :
    Calls Tryd.prog 74 #[.string s] w fun e w' => e = .returned (.int .i64 (o : Int)) ∧ w = w' := by
  have HS := hid hs
  clear hs
  go_enter Tryd.func74, Tryd.ntmps74
  go_wp2_with fail
  go_loopw [3] (fun i wr => ∃ j : Nat, 1 ≤ j ∧ j ≤ o ∧ i = .int .i64 j ∧ w = wr) (fun i _ => 12 - (intOf i).toNat)
  case atStart => exact ⟨1, Nat.le_refl _, h1, rfl, rfl⟩
  case round =>
    obtain ⟨j, hj1, hjo, rfl, rfl⟩ := hrel
    by_cases h : (j : Int) < 11
    · have hd : decide ((j : Int) < 11) = true := decide_eq_true h
      rcases Nat.lt_or_ge j o with hlt | hge
      · have hne : (signT (j : Int) == s.toList) = false := by
          rw [Lib.toList_data, HS.out]
          exact sign_apart hj1 hlt h11
        go_wp2_with fail
        refine (sign_calls (j : Int) B _ hO).mono ?_
        rintro e w1 ⟨rfl, rfl⟩
        generalize signT (j : Int) = sj at *
        go_wp2_with fail
        go_roundw
        case rel => exact ⟨j + 1, by omega, by omega, by go_num, trivial⟩
        case measure => simp [intOf]; omega
      · have hjo' : j = o := by omega
        subst hjo'
        go_wp2_with fail
        refine (sign_calls (j : Int) B _ hO).mono ?_
        rintro e w1 ⟨rfl, rfl⟩
        have hne : (signT (j : Int) == s.toList) = true := by rw [Lib.toList_data, HS.out]; simp
        generalize signT (j : Int) = sj at *
        go_wp2_with fail
        go_ret
        exact ⟨rfl, rfl⟩
    · have hd : decide ((j : Int) < 11) = false := decide_eq_false h
      have hjo' : j = o := by omega
      subst hjo'
      go_wp2_with fail
      go_ret
      exact ⟨rfl, rfl⟩

theorem five_new (w : World) (o1 o2 o5 : Obj) (T T' : TypeId) (c3 c4 : Array Value) :
    Blk (w.heap.size + 1 + 1) T c3 (((((w.alloc o1).alloc o2).alloc (.cells c3 T)).alloc (.cells c4 T')).alloc o5) ∧ Blk (w.heap.size + 1 + 1 + 1) T' c4 (((((w.alloc o1).alloc o2).alloc (.cells c3 T)).alloc (.cells c4 T')).alloc o5) ∧
      Below w.heap.size w (((((w.alloc o1).alloc o2).alloc (.cells c3 T)).alloc (.cells c4 T')).alloc o5) ∧ w.heap.size + 1 + 1 + 1 < (((((w.alloc o1).alloc o2).alloc (.cells c3 T)).alloc (.cells c4 T')).alloc o5).heap.size := by
  have b1 := (Below.refl _ w).alloc (Nat.le_refl _) o1
  have b2 := (Below.refl _ (w.alloc o1)).alloc (Nat.le_refl _) o2
  have b3 := (Below.refl _ ((w.alloc o1).alloc o2)).alloc (Nat.le_refl _) (.cells c3 T)
  have b4 := (Below.refl _ (((w.alloc o1).alloc o2).alloc (.cells c3 T))).alloc (Nat.le_refl _) (.cells c4 T')
  have b5 := (Below.refl _ ((((w.alloc o1).alloc o2).alloc (.cells c3 T)).alloc (.cells c4 T'))).alloc (Nat.le_refl _) o5
  have h3 := blk_on (blk_on (blk_new ((w.alloc o1).alloc o2) T c3) b4) b5
  have h4 := blk_on (blk_new (((w.alloc o1).alloc o2).alloc (.cells c3 T)) T' c4) b5
  simp only [World.size_alloc] at h3 h4
  exact ⟨h3, h4, below_on (below_on (below_on (below_on b1 b2) b3) b4) b5, by simp⟩
theorem join_fin {ok : Nat → Prop} {x y : Nd} {nv kv nv' kv' : Value} {w W : World} (k o : Int) {g : Nat} {T : TypeId} (N1 : NdO ok w x nv kv) (N2 : NdO ok w y nv' kv') (hg : ok g) (hgW : g < W.heap.size) (b : Below w.heap.size w W)
    (hb : Blk g T #[.int .i64 x.kind, .int .i64 x.op, .int .i64 x.num, .string x.str, nv, kv, .int .i64 x.pl, .int .i64 y.kind, .int .i64 y.op, .int .i64 y.num, .string y.str, nv', kv', .int .i64 y.pl] W) :
    NdO ok W (ndO k o [x, y]) (.slice none 0 0) (.slice (some ⟨g, 0, none⟩) 2 2) :=
  ndO_mk2 ⟨.inl ⟨_, _, rfl, rfl⟩, kids_2 ⟨hg, hgW⟩ hb (ndO_aft (aftO_below b) N1) (ndO_aft (aftO_below b) N2)⟩

set_option maxHeartbeats 3200000 in
theorem join_or (ok : Nat → Prop) (x y : Nd) (nv kv nv' kv' : Value) (w : World) (hok : ∀ b, w.heap.size ≤ b → ok b) (N1 : Hid (NdO ok w x nv kv)) (N2 : Hid (NdO ok w y nv' kv')) :
    Calls Tryd.prog 64 #[ndv x nv kv, .string ⟨#[124, 124]⟩, ndv y nv' kv'] w fun e w' => (∃ nv'' kv'', e = .returned (ndv (ndO 12 0 [x, y]) nv'' kv'') ∧ NdO ok w' (ndO 12 0 [x, y]) nv'' kv'') ∧ Below w.heap.size w w' := by
  obtain ⟨a1, q1, a2, q2, rfl, rfl⟩ := ndO_shape N1.out
  obtain ⟨a3, q3, a4, q4, rfl, rfl⟩ := ndO_shape N2.out
  unfold ndv
  go_enter Tryd.func64, Tryd.ntmps64
  go_wp2_with fail
  obtain ⟨h3, h4, hb, hz⟩ := five_new w (.cells #[.int .i64 x.kind, .int .i64 x.op, .int .i64 x.num, .string x.str, .slice a1 x.names.length q1, .slice a2 x.kids.length q2, .int .i64 x.pl] 26) (.cells #[.int .i64 y.kind, .int .i64 y.op, .int .i64 y.num, .string y.str, .slice a3 y.names.length q3, .slice a4 y.kids.length q4, .int .i64 y.pl] 26) (.cells #[.int .i64 12, .int .i64 0, .int .i64 0, .string ⟨#[]⟩, .slice none 0 0, .slice (some ⟨w.heap.size + 1 + 1 + 1, 0, none⟩) 2 2, .int .i64 0] 26) 26 26 #[.int .i64 12, .int .i64 0, .int .i64 0, .string ⟨#[]⟩, .slice none 0 0, .slice (some ⟨w.heap.size + 1 + 1 + 1, 0, none⟩) 2 2, .int .i64 0] #[.int .i64 x.kind, .int .i64 x.op, .int .i64 x.num, .string x.str, .slice a1 x.names.length q1, .slice a2 x.kids.length q2, .int .i64 x.pl, .int .i64 y.kind, .int .i64 y.op, .int .i64 y.num, .string y.str, .slice a3 y.names.length q3, .slice a4 y.kids.length q4, .int .i64 y.pl]
  exact bodyPost_ret (ret_nd rfl rfl h3) rfl ⟨⟨_, _, rfl, join_fin 12 0 N1.out N2.out (hok _ (by omega)) hz hb h4⟩, hb⟩

set_option maxHeartbeats 3200000 in
theorem join_and (ok : Nat → Prop) (x y : Nd) (nv kv nv' kv' : Value) (w : World) (hok : ∀ b, w.heap.size ≤ b → ok b) (N1 : Hid (NdO ok w x nv kv)) (N2 : Hid (NdO ok w y nv' kv')) :
    Calls Tryd.prog 64 #[ndv x nv kv, .string ⟨#[38, 38]⟩, ndv y nv' kv'] w fun e w' => (∃ nv'' kv'', e = .returned (ndv (ndO 11 0 [x, y]) nv'' kv'') ∧ NdO ok w' (ndO 11 0 [x, y]) nv'' kv'') ∧ Below w.heap.size w w' := by
  obtain ⟨a1, q1, a2, q2, rfl, rfl⟩ := ndO_shape N1.out
  obtain ⟨a3, q3, a4, q4, rfl, rfl⟩ := ndO_shape N2.out
  unfold ndv
  go_enter Tryd.func64, Tryd.ntmps64
  go_wp2_with fail
  obtain ⟨h3, h4, hb, hz⟩ := five_new w (.cells #[.int .i64 x.kind, .int .i64 x.op, .int .i64 x.num, .string x.str, .slice a1 x.names.length q1, .slice a2 x.kids.length q2, .int .i64 x.pl] 26) (.cells #[.int .i64 y.kind, .int .i64 y.op, .int .i64 y.num, .string y.str, .slice a3 y.names.length q3, .slice a4 y.kids.length q4, .int .i64 y.pl] 26) (.cells #[.int .i64 11, .int .i64 0, .int .i64 0, .string ⟨#[]⟩, .slice none 0 0, .slice (some ⟨w.heap.size + 1 + 1 + 1, 0, none⟩) 2 2, .int .i64 0] 26) 26 26 #[.int .i64 11, .int .i64 0, .int .i64 0, .string ⟨#[]⟩, .slice none 0 0, .slice (some ⟨w.heap.size + 1 + 1 + 1, 0, none⟩) 2 2, .int .i64 0] #[.int .i64 x.kind, .int .i64 x.op, .int .i64 x.num, .string x.str, .slice a1 x.names.length q1, .slice a2 x.kids.length q2, .int .i64 x.pl, .int .i64 y.kind, .int .i64 y.op, .int .i64 y.num, .string y.str, .slice a3 y.names.length q3, .slice a4 y.kids.length q4, .int .i64 y.pl]
  exact bodyPost_ret (ret_nd rfl rfl h3) rfl ⟨⟨_, _, rfl, join_fin 11 0 N1.out N2.out (hok _ (by omega)) hz hb h4⟩, hb⟩

set_option maxHeartbeats 3200000 in
theorem join_sign (o : Nat) (h1 : 1 ≤ o) (h11 : o ≤ 11) (s : ByteArray) (hs : s.data.toList = signT (o : Int)) (B : Nat) (ok : Nat → Prop) (x y : Nd) (nv kv nv' kv' : Value) (w : World) (hO : Hid (Ok B w)) (hok : ∀ b, w.heap.size ≤ b → ok b) (N1 : Hid (NdO ok w x nv kv)) (N2 : Hid (NdO ok w y nv' kv')) :
    Calls Tryd.prog 64 #[ndv x nv kv, .string s, ndv y nv' kv'] w fun e w' => (∃ nv'' kv'', e = .returned (ndv (ndO 10 o [x, y]) nv'' kv'') ∧ NdO ok w' (ndO 10 o [x, y]) nv'' kv'') ∧ Below w.heap.size w w' := by
  obtain ⟨a1, q1, a2, q2, rfl, rfl⟩ := ndO_shape N1.out
  obtain ⟨a3, q3, a4, q4, rfl, rfl⟩ := ndO_shape N2.out
  have e1 : (s.toList == [124, 124]) = false := by
    rw [Lib.toList_data, hs]
    obtain rfl | rfl | rfl | rfl | rfl | rfl | rfl | rfl | rfl | rfl | rfl : o = 1 ∨ o = 2 ∨ o = 3 ∨ o = 4 ∨ o = 5 ∨ o = 6 ∨ o = 7 ∨ o = 8 ∨ o = 9 ∨ o = 10 ∨ o = 11 := by omega
    all_goals decide
  have e2 : (s.toList == [38, 38]) = false := by
    rw [Lib.toList_data, hs]
    obtain rfl | rfl | rfl | rfl | rfl | rfl | rfl | rfl | rfl | rfl | rfl : o = 1 ∨ o = 2 ∨ o = 3 ∨ o = 4 ∨ o = 5 ∨ o = 6 ∨ o = 7 ∨ o = 8 ∨ o = 9 ∨ o = 10 ∨ o = 11 := by omega
    all_goals decide
  have HS := hid hs
  clear hs
  unfold ndv
  have A1 := (Below.refl _ w).alloc (Nat.le_refl _) (.cells #[.int .i64 x.kind, .int .i64 x.op, .int .i64 x.num, .string x.str, .slice a1 x.names.length q1, .slice a2 x.kids.length q2, .int .i64 x.pl] 26)
  clear A1
  go_enter Tryd.func64, Tryd.ntmps64
  go_wp2_with fail
  refine (number_calls o h1 h11 s HS.out B _ (hid (ok_on hO.out ?_))).mono ?_
  · exact ((((((Below.refl B w).alloc hO.out.1 _).alloc (by simp; have := hO.out.1; omega) _).alloc (by simp; have := hO.out.1; omega) _).alloc (by simp; have := hO.out.1; omega) _).alloc (by simp; have := hO.out.1; omega) _)
  rintro e w1 ⟨rfl, rfl⟩
  go_wp2_with fail
  obtain ⟨h3, h4, hb, hz⟩ := five_new w (.cells #[.int .i64 x.kind, .int .i64 x.op, .int .i64 x.num, .string x.str, .slice a1 x.names.length q1, .slice a2 x.kids.length q2, .int .i64 x.pl] 26) (.cells #[.int .i64 y.kind, .int .i64 y.op, .int .i64 y.num, .string y.str, .slice a3 y.names.length q3, .slice a4 y.kids.length q4, .int .i64 y.pl] 26) (.cells #[.int .i64 10, .int .i64 o, .int .i64 0, .string ⟨#[]⟩, .slice none 0 0, .slice (some ⟨w.heap.size + 1 + 1 + 1, 0, none⟩) 2 2, .int .i64 0] 26) 26 26 #[.int .i64 10, .int .i64 o, .int .i64 0, .string ⟨#[]⟩, .slice none 0 0, .slice (some ⟨w.heap.size + 1 + 1 + 1, 0, none⟩) 2 2, .int .i64 0] #[.int .i64 x.kind, .int .i64 x.op, .int .i64 x.num, .string x.str, .slice a1 x.names.length q1, .slice a2 x.kids.length q2, .int .i64 x.pl, .int .i64 y.kind, .int .i64 y.op, .int .i64 y.num, .string y.str, .slice a3 y.names.length q3, .slice a4 y.kids.length q4, .int .i64 y.pl]
  exact bodyPost_ret (ret_nd rfl rfl h3) rfl ⟨⟨_, _, rfl, join_fin 10 o N1.out N2.out (hok _ (by omega)) hz hb h4⟩, hb⟩

end Go.Proofs.YtijbiedblahmhaaDoor

namespace Go.Proofs.YtijbiedblahmhaaDoor
open Go.RowKit

/-- how many tokens are left, told by the parser's place -/
def leftAt (P : Nat) (L : List Tok) (w : World) : Nat := L.length - (intOf ((w.cell? ⟨P, 1, none⟩).getD undef)).toNat
theorem left_is {P : Nat} {L l : List Tok} {w : World} (h : PSt P L w l) : leftAt P L w = l.length := by
  obtain ⟨R, cap, h1, h2, h3, h4⟩ := h.mem
  have hl := h.suf.length_le
  unfold leftAt
  rw [blk_cell h4]
  simp [intOf]
  omega
/-- words that came in are where they were -/
theorem words_on {lo P : Nat} {w c : World} {v : Value} {ws : List ByteArray} (h : StR lo w v ws) (k : But P w c) (hp : P < lo) : StrsIn w.heap.size v ws c := by
  have h2 : StrsW (Own lo w) v ws c := strsW_keep (fun b hb => ⟨hb, k.block b hb.2 (by have := hb.1; omega)⟩) h
  rcases h2 with h | ⟨b, off, cap, h1, h2, h3, h4⟩
  · exact .inl h
  · exact .inr ⟨b, off, cap, h1, h2.2, h3, h4⟩
def wsOf (s : List (List UInt8 × Int × Int)) : List ByteArray := s.map fun p => ⟨p.1.toArray⟩
theorem first_sign (l : List Tok) : ∀ s : List (List UInt8 × Int × Int), (firstW (wsOf s) l = none → signF s l = none) ∧ ∀ x, firstW (wsOf s) l = some x → ∃ k o, signF s l = some (k, o) ∧ (x.data.toList, k, o) ∈ s
  | [] => ⟨fun _ => rfl, fun x h => by cases h⟩
  | (y, k, o) :: r => by
    have ih := first_sign l r
    have e : firstW (wsOf ((y, k, o) :: r)) l = if isH l y then some ⟨y.toArray⟩ else firstW (wsOf r) l := by
      unfold firstW wsOf
      rw [List.map_cons, List.find?_cons]
      simp only
      cases isH l y <;> rfl
    rw [e]
    cases hh : isH l y with
    | true =>
      refine ⟨fun h => by simp at h, fun x hx => ⟨k, o, by rw [signF, hh]; rfl, ?_⟩⟩
      simp at hx
      subst hx
      simp
    | false =>
      refine ⟨fun h => by rw [signF, hh]; exact ih.1 (by simpa using h), fun x hx => ?_⟩
      obtain ⟨k', o', h1, h2⟩ := ih.2 x (by simpa using hx)
      exact ⟨k', o', by rw [signF, hh]; exact h1, by simp [h2]⟩
theorem first_some {ws : List ByteArray} {l : List Tok} {x : ByteArray} (h : firstW ws l = some x) : ∃ t q, l = t :: q ∧ isT t x.data.toList = true := by
  have := List.find?_some h
  exact isH_some this
theorem isT_ne {t : Tok} {x : ByteArray} (h : isT t x.data.toList = true) (hr : rightTok t = true) : x.toList.isEmpty = false := by
  rw [Lib.toList_data, ← isT_text h]
  have h6 := isT_kind h
  have hne : t.text.data.toList ≠ [] := by
    unfold isT at h
    rw [Bool.and_eq_true, Bool.or_eq_true, beq_iff_eq, beq_iff_eq] at h
    unfold rightTok at hr
    rcases h.1 with h2 | h5
    · rw [h2] at hr
      simp at hr
      intro e; rw [e] at hr; exact absurd hr.2 (by decide)
    · rw [h5] at hr
      simp at hr
      intro e; rw [e] at hr; exact absurd hr.2 (by decide)
  cases hq : t.text.data.toList with
  | nil => exact absurd hq hne
  | cons => rfl
theorem pst_gt {P : Nat} {L l : List Tok} {w : World} (h : PSt P L w l) : GT l := gt_suf h.ok.right h.suf
theorem bytes_is {s : ByteArray} {l : List UInt8} (h : s.data.toList = l) : s = ⟨l.toArray⟩ := by rw [← h]
/-- with the sign, or without one -/
def BtS (P : Nat) (L : List Tok) (r : Nat) (m : List Tok) (s : Value) (wr : World) : Prop :=
  (s = .string ⟨#[]⟩ ∧ signP r m = none ∧ PSt P L wr m) ∨ ∃ t q k o x, m = t :: q ∧ s = .string x ∧ isT t x.data.toList = true ∧ rightTok t = true ∧ signP r m = some (k, o) ∧ (x.data.toList, k, o) ∈ sgR r ∧ PSt P L wr q
theorem takeone_bt (r : Nat) (hr : (sgR r).length ≤ 1000) (P : Nat) (L m : List Tok) (B : Nat) (v : Value) (w : World) (hB : B ≤ w.heap.size) (H : Hid (PSt P L w m)) (hV : Hid (StrsIn B v (wsOf (sgR r)) w)) :
    Calls Tryd.prog 63 #[.pointer (some ⟨P, 0, none⟩), v] w fun e w' => ∃ s, e = .returned s ∧ BtS P L r m s w' ∧ But P w w' := by
  have hl : (wsOf (sgR r)).length ≤ 1000 := by unfold wsOf; simpa using hr
  have hfs := first_sign m (sgR r)
  cases hfw : firstW (wsOf (sgR r)) m with
  | none =>
    refine (takeone_no P L m _ B v w hB H hV hl hfw).mono ?_
    rintro e w' ⟨rfl, b⟩
    exact ⟨_, rfl, .inl ⟨rfl, hfs.1 hfw, H.out.on b⟩, But.of b⟩
  | some x =>
    obtain ⟨t, q, rfl, ht⟩ := first_some hfw
    obtain ⟨k, o, h1, h2⟩ := hfs.2 x hfw
    refine (takeone_yes P L t q _ x B v w hB H hV hl hfw).mono ?_
    rintro e w' ⟨rfl, s', b⟩
    exact ⟨_, rfl, .inr ⟨t, q, k, o, x, rfl, rfl, ht, pst_gt H.out t (by simp), h1, h2, s'⟩, b⟩

set_option linter.unusedSimpArgs false in
set_option maxHeartbeats 6400000 in
theorem between_1 (f : Nat) (hR : ∀ g, g ≤ f → RankC g) (lo P : Nat) (L l : List Tok) (sv : Value) (w : World) (hf : 20 * l.length + (10 - 1) ≤ f) (hlo : P < lo) (H : Hid (PSt P L w l)) (HV : Hid (StR lo w sv [⟨#[124, 124]⟩])) :
    Calls Tryd.prog 54 #[.pointer (some ⟨P, 0, none⟩), .func (.func 55) #[.pointer (some ⟨P, 0, none⟩)] #[], sv] w (Reads P L w ((pRank f (1 + 1) l).bind fun e b l => pMore f 1 e b l)) := by
  have A := hid ((Below.refl _ w).alloc (Nat.le_refl _) (.cells znd 26))
  have S0 := hid (H.out.on A.out)
  have G0 := hid (blk_new w 26 znd)
  have hP := H.out.lt
  have HC := hid (show ∀ w', Hid (PSt P L w' l) → Calls Tryd.prog 55 #[.pointer (some ⟨P, 0, none⟩)] w' (Reads P L w' (pRank f (1 + 1) l)) from fun w' S => hR f (Nat.le_refl _) (1 + 1) P L l w' (by omega) (by omega) (by omega) S)
  have HM := hid ((may f).rank (1 + 1) l (pst_gt H.out))
  have HR := hid (show ∀ g, g ≤ f → ∀ (q : List Tok) (w' : World), 20 * q.length + (10 - 1) ≤ g → Hid (PSt P L w' q) → Calls Tryd.prog 55 #[.pointer (some ⟨P, 0, none⟩)] w' (Reads P L w' (pRank g (1 + 1) q)) from fun g hg q w' hq S => hR g hg (1 + 1) P L q w' (by omega) (by omega) (by omega) S)
  unfold znd at *
  clear H hR
  cases hq : pRank f (1 + 1) l with
  | bad l' =>
    rw [hq] at HC
    rw [PR.bind_bad]
    clear HM HR
    go_enter Tryd.func54, Tryd.ntmps54
    go_wp2_with fail
    refine (HC.out _ S0).mono ?_
    rintro e w2 ⟨rfl, s2, b2⟩
    have S2 := hid s2
    have B2 := hid ((But.of A.out).trans b2)
    clear s2 b2 S0 A G0 HC
    unfold gaveUp
    go_wp2_with fail
    exact ⟨rfl, rfl, S2.out, B2.out⟩
  | ok x b l' =>
    rw [hq] at HC HM
    rw [PR.bind_ok]
    have hm : l'.length + 1 ≤ l.length := by
      obtain ⟨_, pre, u, e, _⟩ := HM.out
      rw [e]; simp
    clear HM
    go_enter Tryd.func54, Tryd.ntmps54
    go_wp2_with fail
    refine (HC.out _ S0).mono ?_
    rintro e1 w1 ⟨⟨nv, kv, rfl, n1⟩, s1, b1⟩
    obtain ⟨a1, q1, a2, q2, rfl, rfl⟩ := ndR_shape n1
    have hsz1 := b1.size
    simp only [World.size_alloc] at hsz1
    have AA := (Below.refl _ w1).alloc (Nat.le_refl _) (.cells (ndc x (.slice a1 x.names.length q1) (.slice a2 x.kids.length q2)) 26)
    have S1 := hid (s1.on AA)
    have B1 := hid (((But.of A.out).trans b1).trans (But.of AA))
    have Z1 := hid (blk_on (blk_but G0.out b1 (by omega)) AA)
    have G1 := hid (blk_new w1 26 (ndc x (.slice a1 x.names.length q1) (.slice a2 x.kids.length q2)))
    have N1 := hid (ndO_aft (aftO_below AA) (ndO_of (ok := fun b => w.heap.size + 1 ≤ b ∧ b ≠ w1.heap.size) n1 (fun b h1 h2 => ⟨by simpa using h1, by omega⟩)))
    clear b1 s1 n1 AA S0 A G0 HC hq
    unfold ndv
    unfold ndc at *
    have V1 := hid (words_on HV.out B1.out hlo)
    have hl1 : w.heap.size + 1 ≤ w1.heap.size := hsz1
    go_wp2_with fail
    refine (takeone_bt 1 (by decide) P L l' w.heap.size sv _ (by simp; omega) S1 V1).mono ?_
    rintro e3 w3 ⟨sv0, rfl, hbt, b3⟩
    have BT := hid hbt
    have B3 := hid (B1.out.trans b3)
    have Z3 := hid (blk_but Z1.out b3 (by omega))
    have G3 := hid (blk_but G1.out b3 (by omega))
    have N3 := hid (ndO_aft (aftO_but b3 (by omega)) N1.out)
    clear hbt b3 S1 B1 Z1 G1 N1 V1
    go_wp2_with fail
    go_loopw [8] (fun s wr => ∃ (g : Nat) (e : Nd) (c : Bool) (m : List Tok) (nv kv : Value), Hid (pMore f 1 x b l' = pMore g 1 e c m) ∧ 20 * m.length + 5 ≤ g ∧ g ≤ f ∧ Hid (But P w wr) ∧ Hid (Blk w.heap.size 26 znd wr) ∧ Hid (Blk w1.heap.size 26 (ndc e nv kv) wr) ∧ Hid (NdO (fun b => w.heap.size + 1 ≤ b ∧ b ≠ w1.heap.size) wr e nv kv) ∧ Hid (BtS P L 1 m s wr)) (fun _ wr => leftAt P L wr)
    case atStart => exact ⟨f, x, b, l', _, _, (show Hid (_ = _) from rfl), by omega, Nat.le_refl _, B3.out, Z3.out, G3.out, N3.out, BT.out⟩
    case round =>
      obtain ⟨g, e, c, m, nv, kv, hpe, hgm, hgf, hB, hZ, hG, hN, hS⟩ := hrel
      clear B3 Z3 G3 N3 BT
      obtain ⟨g, rfl⟩ : ∃ g', g = g' + 1 := ⟨g - 1, by omega⟩
      obtain ⟨b1, p1, b2, p2, rfl, rfl⟩ := ndO_shape hN.out
      have hg0 := blk_lt hZ.out
      have hg1 := blk_lt hG.out
      unfold znd ndc at *
      rcases hS.out with ⟨rfl, hsn, hst⟩ | ⟨t, q, k, o, sx, rfl, rfl, hst, hrt, hsn, hin, hpq⟩
      · have HE := hid (hpe.out.trans (show pMore (g + 1) 1 e c m = .ok e c m by rw [pMore, hsn]))
        have S4 := hid hst
        obtain ⟨r0, r1, r2, r3, r4, r5, r6⟩ := cells7 hG.out
        obtain ⟨z0, z1, z2, z3, z4, z5, z6⟩ := cells7 hZ.out
        obtain ⟨u0, u1, u2, u3, u4, u5, u6⟩ := frees7 hZ.out
        clear hpe hsn hst hS HR
        go_wp2_with fail
        have Z := fin_put hP (Nat.le_refl _) S4.out hB.out hZ.out (.int .i64 e.kind) (.int .i64 e.op) (.int .i64 e.num) (.string e.str) (.slice b1 e.names.length p1) (.slice b2 e.kids.length p2) (.int .i64 e.pl)
        refine bodyPost_ret (ret_nd rfl rfl Z.1) rfl ?_
        rw [HE.out]
        exact ⟨⟨_, _, rfl, ndR_of (ndO_aft (put7_aftO _ (by omega) _ _ _ _ _ _ _) hN.out) (fun b h => by omega)⟩, Z.2.1, Z.2.2⟩
      · have hxe := isT_ne hst hrt
        obtain ⟨rfl, rfl, rfl⟩ : sx = ⟨#[124, 124]⟩ ∧ k = 12 ∧ o = 0 := by
          simp [sgR] at hin
          exact ⟨bytes_is hin.1, hin.2.1, hin.2.2⟩
        have HE := hid (hpe.out.trans (show pMore (g + 1) 1 e c (t :: q) = (pRank g (1 + 1) q).bind fun e' _ l => pMore g 1 (ndO 12 0 [e, e']) false l by rw [pMore, hsn]; rfl))
        have HMq := hid ((may g).rank (1 + 1) q (pst_gt hpq))
        have HCq := hid (fun w' S => HR.out g (by omega) q w' (by simp at hgm; omega) S)
        have S2 := hid hpq
        clear hpe hsn hst hrt hS HR hin hpq
        cases hqq : pRank g (1 + 1) q with
        | bad m' =>
          rw [hqq] at HE HCq
          rw [PR.bind_bad] at HE
          obtain ⟨r0, r1, r2, r3, r4, r5, r6⟩ := cells7 hG.out
          go_wp2_with fail
          refine wp_region_held_drew (S := fun _ => True) (by kernel_rfl) trivial (fun hHeld => ?_)
          refine wpAnyH_take (i := 1) (v := ?v1) rfl (by kernel_rfl) (by kernel_rfl) (by kernel_rfl) (fun _ _ _ h => h) (Or.inl ⟨by rfl, ?hy1⟩) (by assumption) ?_
          case hy1 => (intro w hSw; go_simp <;> (try with_reducible rfl))
          simp only [Act.put, List.setIfInBounds_toArray, List.set_cons_zero, List.set_cons_succ, List.getElem_toArray, List.getElem_cons_succ, List.getElem_cons_zero]
          refine wpAnyH_take (i := 2) (v := ?v2) rfl (by kernel_rfl) (by kernel_rfl) (by kernel_rfl) (fun _ _ _ h => h) (Or.inl ⟨by rfl, ?hy2⟩) (by assumption) ?_
          case hy2 => (intro w hSw; go_simp <;> (try with_reducible rfl))
          simp only [Act.put, List.setIfInBounds_toArray, List.set_cons_zero, List.set_cons_succ, List.getElem_toArray, List.getElem_cons_succ, List.getElem_cons_zero]
          refine wpAnyH_ready (rs := [0, 3]) (by kernel_rfl) (by simp) ?_
          refine AllReadyH.cons rfl (fun K hK => ?_) (AllReadyH.cons rfl (fun K hK => ?_) AllReadyH.nil)
          · go_simp
            refine hK.out _ _ trivial (fun hHeld => ?_)
            clear hK K
            refine wpAnyH_ready (rs := [3]) (by kernel_rfl) (by simp) ?_
            refine AllReadyH.cons rfl (fun K hK => ?_) AllReadyH.nil
            have HK := hid hK
            clear hK
            go_simp
            refine (HCq.out _ (hid (S2.out.on (Below.refl _ _).drew))).mono ?_
            rintro e5 w5 ⟨rfl, s5, b5⟩
            have S5 := hid s5
            have B5 := hid ((hB.out.trans (But.of (Below.refl _ _).drew)).trans b5)
            clear s5 b5 HK
            unfold gaveUp
            go_wp2_with fail
            refine ⟨rfl, ?_⟩
            rw [HE.out]
            exact ⟨rfl, S5.out, B5.out⟩
          · have HK := hid hK
            clear hK
            go_simp
            refine (HCq.out _ (hid (S2.out.on (Below.refl _ _).drew))).mono ?_
            rintro e5 w5 ⟨rfl, s5, b5⟩
            have S5 := hid s5
            have B5 := hid ((hB.out.trans (But.of (Below.refl _ _).drew)).trans b5)
            clear s5 b5 HK
            unfold gaveUp
            go_wp2_with fail
            refine ⟨rfl, ?_⟩
            rw [HE.out]
            exact ⟨rfl, S5.out, B5.out⟩
        | ok x2 c2 m' =>
          rw [hqq] at HE HCq HMq
          rw [PR.bind_ok] at HE
          have hm2 : m'.length + 1 ≤ q.length := by
            obtain ⟨_, pre, u, e, _⟩ := HMq.out
            rw [e]; simp
          clear HMq
          obtain ⟨r0, r1, r2, r3, r4, r5, r6⟩ := cells7 hG.out
          go_wp2_with fail
          refine wp_region_held_drew (S := fun _ => True) (by kernel_rfl) trivial (fun hHeld => ?_)
          refine wpAnyH_take (i := 1) (v := ?v1) rfl (by kernel_rfl) (by kernel_rfl) (by kernel_rfl) (fun _ _ _ h => h) (Or.inl ⟨by rfl, ?hy1⟩) (by assumption) ?_
          case hy1 => (intro w hSw; go_simp <;> (try with_reducible rfl))
          simp only [Act.put, List.setIfInBounds_toArray, List.set_cons_zero, List.set_cons_succ, List.getElem_toArray, List.getElem_cons_succ, List.getElem_cons_zero]
          refine wpAnyH_take (i := 2) (v := ?v2) rfl (by kernel_rfl) (by kernel_rfl) (by kernel_rfl) (fun _ _ _ h => h) (Or.inl ⟨by rfl, ?hy2⟩) (by assumption) ?_
          case hy2 => (intro w hSw; go_simp <;> (try with_reducible rfl))
          simp only [Act.put, List.setIfInBounds_toArray, List.set_cons_zero, List.set_cons_succ, List.getElem_toArray, List.getElem_cons_succ, List.getElem_cons_zero]
          refine wpAnyH_ready (rs := [0, 3]) (by kernel_rfl) (by simp) ?_
          refine AllReadyH.cons rfl (fun K hK => ?_) (AllReadyH.cons rfl (fun K hK => ?_) AllReadyH.nil)
          · go_simp
            refine hK.out _ _ trivial (fun hHeld => ?_)
            clear hK K
            refine wpAnyH_ready (rs := [3]) (by kernel_rfl) (by simp) ?_
            refine AllReadyH.cons rfl (fun K hK => ?_) AllReadyH.nil
            have HK := hid hK
            clear hK
            go_simp
            refine (HCq.out _ (hid (S2.out.on (Below.refl _ _).drew))).mono ?_
            rintro e3 w3 ⟨⟨nv3, kv3, rfl, n3⟩, s3, b3⟩
            obtain ⟨f1, g1, f2, g2, rfl, rfl⟩ := ndR_shape n3
            have DR := (Below.refl wr.heap.size wr).drew
            have S3 := hid s3
            have B3 := hid ((hB.out.trans (But.of DR)).trans b3)
            have Z3 := hid (blk_but (blk_on hZ.out DR) b3 (by omega))
            have G3 := hid (blk_but (blk_on hG.out DR) b3 (by omega))
            have N3 := hid (ndO_aft (aftO_but b3 (by omega)) (ndO_aft (aftO_below DR) hN.out))
            have M3 := hid (ndO_of (ok := fun b => w.heap.size + 1 ≤ b ∧ b ≠ w1.heap.size) n3 (fun b h1 h2 => by simp at h1; omega))
            have hz3 := b3.size
            have hl3 : ∀ b, w3.heap.size ≤ b → w.heap.size + 1 ≤ b ∧ b ≠ w1.heap.size := by intro b hb; simp at hz3; omega
            clear s3 b3 n3 DR
            unfold ndv
            simp only
            refine HK.out.out _ _ trivial (fun hHeld => ?_)
            clear HK K
            refine wpAnyH_ready (rs := [4]) (by kernel_rfl) (by simp) ?_
            refine AllReadyH.cons rfl (fun K hK => ?_) AllReadyH.nil
            have HK := hid hK
            clear hK
            go_simp
            refine (join_or _ e x2 _ _ _ _ _ hl3 (hid N3.out) (hid M3.out)).mono ?_
            rintro e4 w4 ⟨⟨nv4, kv4, rfl, n4⟩, b4⟩
            obtain ⟨c1, d1, c3, d3, rfl, rfl⟩ := ndO_shape n4
            have S4 := hid (S3.out.on b4)
            have B4 := hid (B3.out.trans (But.of b4))
            have Z4 := hid (blk_on Z3.out b4)
            have G4 := hid (blk_on G3.out b4)
            have N4 := hid n4
            have hg4 := blk_lt G4.out
            obtain ⟨s0, s1, s2, s3, s4, s5, s6⟩ := cells7 G4.out
            obtain ⟨u0, u1, u2, u3, u4, u5, u6⟩ := frees7 G4.out
            clear b4 n4 S3 B3 Z3 G3 N3 M3
            unfold ndv
            simp only
            refine HK.out.out _ _ trivial (fun hHeld => ?_)
            clear HK K
            refine wpAnyH_ready (rs := [5]) (by kernel_rfl) (by simp) ?_
            refine AllReadyH.cons rfl (fun K hK => ?_) AllReadyH.nil
            have HK := hid hK
            clear hK
            go_simp
            refine HK.out.out _ _ trivial (fun hHeld => ?_)
            clear HK K
            refine wpAnyH_done (by kernel_rfl) ?_ _
            have F := fin_put hP (by omega) S4.out B4.out G4.out (.int .i64 (ndO 12 0 [e, x2]).kind) (.int .i64 (ndO 12 0 [e, x2]).op) (.int .i64 (ndO 12 0 [e, x2]).num) (.string (ndO 12 0 [e, x2]).str) (.slice c1 (ndO 12 0 [e, x2]).names.length d1) (.slice c3 (ndO 12 0 [e, x2]).kids.length d3) (.int .i64 (ndO 12 0 [e, x2]).pl)
            have Z5 := hid (blk_put7 (g := w1.heap.size) Z4.out (by omega) (.int .i64 (ndO 12 0 [e, x2]).kind) (.int .i64 (ndO 12 0 [e, x2]).op) (.int .i64 (ndO 12 0 [e, x2]).num) (.string (ndO 12 0 [e, x2]).str) (.slice c1 (ndO 12 0 [e, x2]).names.length d1) (.slice c3 (ndO 12 0 [e, x2]).kids.length d3) (.int .i64 (ndO 12 0 [e, x2]).pl))
            have N5 := hid (ndO_aft (put7_aftO (g := w1.heap.size) w4 (by simp) (.int .i64 (ndO 12 0 [e, x2]).kind) (.int .i64 (ndO 12 0 [e, x2]).op) (.int .i64 (ndO 12 0 [e, x2]).num) (.string (ndO 12 0 [e, x2]).str) (.slice c1 (ndO 12 0 [e, x2]).names.length d1) (.slice c3 (ndO 12 0 [e, x2]).kids.length d3) (.int .i64 (ndO 12 0 [e, x2]).pl)) N4.out)
            have G5 := hid F.1
            have S5 := hid F.2.1
            have B5 := hid F.2.2
            have V5 := hid (words_on HV.out F.2.2 hlo)
            have hz5 := F.2.2.size
            clear F S4 B4 Z4 G4 N4 s0 s1 s2 s3 s4 s5 s6 u0 u1 u2 u3 u4 u5 u6 hHeld r0 r1 r2 r3 r4 r5 r6
            unfold put7w at Z5 N5 G5 S5 B5 V5 hz5
            obtain ⟨w5, hw5⟩ : ∃ w5, (((((((w4.setCell ⟨w1.heap.size, 0, none⟩ (.int .i64 (ndO 12 0 [e, x2]).kind)).setCell ⟨w1.heap.size, 1, none⟩ (.int .i64 (ndO 12 0 [e, x2]).op)).setCell ⟨w1.heap.size, 2, none⟩ (.int .i64 (ndO 12 0 [e, x2]).num)).setCell ⟨w1.heap.size, 3, none⟩ (.string (ndO 12 0 [e, x2]).str)).setCell ⟨w1.heap.size, 4, none⟩ (.slice c1 (ndO 12 0 [e, x2]).names.length d1)).setCell ⟨w1.heap.size, 5, none⟩ (.slice c3 (ndO 12 0 [e, x2]).kids.length d3)).setCell ⟨w1.heap.size, 6, none⟩ (.int .i64 (ndO 12 0 [e, x2]).pl)) = w5 := ⟨_, rfl⟩
            rw [hw5] at Z5 N5 G5 S5 B5 V5 hz5 ⊢
            clear hw5 hg4
            go_wp2_with fail
            refine (takeone_bt 1 (by decide) P L m' w.heap.size sv _ hz5 S5 V5).mono ?_
            rintro e6 w6 ⟨sv6, rfl, hbt, b6⟩
            have BT6 := hid hbt
            have B6 := hid (B5.out.trans b6)
            have Z6 := hid (blk_but Z5.out b6 (by omega))
            have G6 := hid (blk_but G5.out b6 (by omega))
            have N6 := hid (ndO_aft (aftO_but b6 (by omega)) N5.out)
            have HLE := hid (show leftAt P L w6 < leftAt P L wr by
              have h1 := left_is S2.out
              have h2 : leftAt P L w6 ≤ m'.length := by
                rcases hbt with ⟨_, _, h⟩ | ⟨_, _, _, _, _, e, _, _, _, _, _, h⟩
                · exact Nat.le_of_eq (left_is h)
                · rw [left_is h, e]; simp
              omega)
            clear hbt b6 S5 B5 Z5 G5 N5 V5 S2 hB hZ hG hN
            go_wp2_with fail
            go_roundw
            case rel => exact ⟨g, _, false, m', _, _, HE.out, by simp at hgm; omega, by omega, B6.out, Z6.out, G6.out, N6.out, BT6.out⟩
            case measure => exact HLE.out
          · have HK := hid hK
            clear hK
            go_simp
            refine (HCq.out _ (hid (S2.out.on (Below.refl _ _).drew))).mono ?_
            rintro e3 w3 ⟨⟨nv3, kv3, rfl, n3⟩, s3, b3⟩
            obtain ⟨f1, g1, f2, g2, rfl, rfl⟩ := ndR_shape n3
            have DR := (Below.refl wr.heap.size wr).drew
            have S3 := hid s3
            have B3 := hid ((hB.out.trans (But.of DR)).trans b3)
            have Z3 := hid (blk_but (blk_on hZ.out DR) b3 (by omega))
            have G3 := hid (blk_but (blk_on hG.out DR) b3 (by omega))
            have N3 := hid (ndO_aft (aftO_but b3 (by omega)) (ndO_aft (aftO_below DR) hN.out))
            have M3 := hid (ndO_of (ok := fun b => w.heap.size + 1 ≤ b ∧ b ≠ w1.heap.size) n3 (fun b h1 h2 => by simp at h1; omega))
            have hz3 := b3.size
            have hl3 : ∀ b, w3.heap.size ≤ b → w.heap.size + 1 ≤ b ∧ b ≠ w1.heap.size := by intro b hb; simp at hz3; omega
            clear s3 b3 n3 DR
            unfold ndv
            simp only
            refine HK.out.out _ _ trivial (fun hHeld => ?_)
            clear HK K
            obtain ⟨t0, t1, t2, t3, t4, t5, t6⟩ := cells7 G3.out
            refine wpAnyH_ready (rs := [0]) (by kernel_rfl) (by simp) ?_
            refine AllReadyH.cons rfl (fun K hK => ?_) AllReadyH.nil
            have HK := hid hK
            clear hK
            go_simp
            refine HK.out.out _ _ trivial (fun hHeld => ?_)
            clear HK K t0 t1 t2 t3 t4 t5 t6
            refine wpAnyH_ready (rs := [4]) (by kernel_rfl) (by simp) ?_
            refine AllReadyH.cons rfl (fun K hK => ?_) AllReadyH.nil
            have HK := hid hK
            clear hK
            go_simp
            refine (join_or _ e x2 _ _ _ _ _ hl3 (hid N3.out) (hid M3.out)).mono ?_
            rintro e4 w4 ⟨⟨nv4, kv4, rfl, n4⟩, b4⟩
            obtain ⟨c1, d1, c3, d3, rfl, rfl⟩ := ndO_shape n4
            have S4 := hid (S3.out.on b4)
            have B4 := hid (B3.out.trans (But.of b4))
            have Z4 := hid (blk_on Z3.out b4)
            have G4 := hid (blk_on G3.out b4)
            have N4 := hid n4
            have hg4 := blk_lt G4.out
            obtain ⟨s0, s1, s2, s3, s4, s5, s6⟩ := cells7 G4.out
            obtain ⟨u0, u1, u2, u3, u4, u5, u6⟩ := frees7 G4.out
            clear b4 n4 S3 B3 Z3 G3 N3 M3
            unfold ndv
            simp only
            refine HK.out.out _ _ trivial (fun hHeld => ?_)
            clear HK K
            refine wpAnyH_ready (rs := [5]) (by kernel_rfl) (by simp) ?_
            refine AllReadyH.cons rfl (fun K hK => ?_) AllReadyH.nil
            have HK := hid hK
            clear hK
            go_simp
            refine HK.out.out _ _ trivial (fun hHeld => ?_)
            clear HK K
            refine wpAnyH_done (by kernel_rfl) ?_ _
            have F := fin_put hP (by omega) S4.out B4.out G4.out (.int .i64 (ndO 12 0 [e, x2]).kind) (.int .i64 (ndO 12 0 [e, x2]).op) (.int .i64 (ndO 12 0 [e, x2]).num) (.string (ndO 12 0 [e, x2]).str) (.slice c1 (ndO 12 0 [e, x2]).names.length d1) (.slice c3 (ndO 12 0 [e, x2]).kids.length d3) (.int .i64 (ndO 12 0 [e, x2]).pl)
            have Z5 := hid (blk_put7 (g := w1.heap.size) Z4.out (by omega) (.int .i64 (ndO 12 0 [e, x2]).kind) (.int .i64 (ndO 12 0 [e, x2]).op) (.int .i64 (ndO 12 0 [e, x2]).num) (.string (ndO 12 0 [e, x2]).str) (.slice c1 (ndO 12 0 [e, x2]).names.length d1) (.slice c3 (ndO 12 0 [e, x2]).kids.length d3) (.int .i64 (ndO 12 0 [e, x2]).pl))
            have N5 := hid (ndO_aft (put7_aftO (g := w1.heap.size) w4 (by simp) (.int .i64 (ndO 12 0 [e, x2]).kind) (.int .i64 (ndO 12 0 [e, x2]).op) (.int .i64 (ndO 12 0 [e, x2]).num) (.string (ndO 12 0 [e, x2]).str) (.slice c1 (ndO 12 0 [e, x2]).names.length d1) (.slice c3 (ndO 12 0 [e, x2]).kids.length d3) (.int .i64 (ndO 12 0 [e, x2]).pl)) N4.out)
            have G5 := hid F.1
            have S5 := hid F.2.1
            have B5 := hid F.2.2
            have V5 := hid (words_on HV.out F.2.2 hlo)
            have hz5 := F.2.2.size
            clear F S4 B4 Z4 G4 N4 s0 s1 s2 s3 s4 s5 s6 u0 u1 u2 u3 u4 u5 u6 hHeld r0 r1 r2 r3 r4 r5 r6
            unfold put7w at Z5 N5 G5 S5 B5 V5 hz5
            obtain ⟨w5, hw5⟩ : ∃ w5, (((((((w4.setCell ⟨w1.heap.size, 0, none⟩ (.int .i64 (ndO 12 0 [e, x2]).kind)).setCell ⟨w1.heap.size, 1, none⟩ (.int .i64 (ndO 12 0 [e, x2]).op)).setCell ⟨w1.heap.size, 2, none⟩ (.int .i64 (ndO 12 0 [e, x2]).num)).setCell ⟨w1.heap.size, 3, none⟩ (.string (ndO 12 0 [e, x2]).str)).setCell ⟨w1.heap.size, 4, none⟩ (.slice c1 (ndO 12 0 [e, x2]).names.length d1)).setCell ⟨w1.heap.size, 5, none⟩ (.slice c3 (ndO 12 0 [e, x2]).kids.length d3)).setCell ⟨w1.heap.size, 6, none⟩ (.int .i64 (ndO 12 0 [e, x2]).pl)) = w5 := ⟨_, rfl⟩
            rw [hw5] at Z5 N5 G5 S5 B5 V5 hz5 ⊢
            clear hw5 hg4
            go_wp2_with fail
            refine (takeone_bt 1 (by decide) P L m' w.heap.size sv _ hz5 S5 V5).mono ?_
            rintro e6 w6 ⟨sv6, rfl, hbt, b6⟩
            have BT6 := hid hbt
            have B6 := hid (B5.out.trans b6)
            have Z6 := hid (blk_but Z5.out b6 (by omega))
            have G6 := hid (blk_but G5.out b6 (by omega))
            have N6 := hid (ndO_aft (aftO_but b6 (by omega)) N5.out)
            have HLE := hid (show leftAt P L w6 < leftAt P L wr by
              have h1 := left_is S2.out
              have h2 : leftAt P L w6 ≤ m'.length := by
                rcases hbt with ⟨_, _, h⟩ | ⟨_, _, _, _, _, e, _, _, _, _, _, h⟩
                · exact Nat.le_of_eq (left_is h)
                · rw [left_is h, e]; simp
              omega)
            clear hbt b6 S5 B5 Z5 G5 N5 V5 S2 hB hZ hG hN
            go_wp2_with fail
            go_roundw
            case rel => exact ⟨g, _, false, m', _, _, HE.out, by simp at hgm; omega, by omega, B6.out, Z6.out, G6.out, N6.out, BT6.out⟩
            case measure => exact HLE.out

set_option maxHeartbeats 3200000 in
theorem rank_1 (f : Nat) (hR : ∀ g, g ≤ f → RankC g) (P : Nat) (L l : List Tok) (w : World) (hf : 20 * l.length + (10 - 1) ≤ f) (H : Hid (PSt P L w l)) :
    Calls Tryd.prog 43 #[.pointer (some ⟨P, 0, none⟩)] w (Reads P L w ((pRank f (1 + 1) l).bind fun e b l => pMore f 1 e b l)) := by
  have hP := H.out.lt
  have A1 := (Below.refl _ w).alloc (Nat.le_refl _) (.cells znd 26)
  have A2 := (Below.refl _ (w.alloc (.cells znd 26))).alloc (Nat.le_refl _) (.cells #[.string ⟨#[124, 124]⟩] 9)
  have A := hid (below_on A1 A2)
  have S0 := hid (H.out.on A.out)
  have G0 := hid (blk_on (blk_new w 26 znd) A2)
  have V0 := hid (show StR (w.heap.size + 1) ((w.alloc (.cells znd 26)).alloc (.cells #[.string ⟨#[124, 124]⟩] 9)) (.slice (some ⟨w.heap.size + 1, 0, none⟩) 1 1) [⟨#[124, 124]⟩] from by
    have hb := blk_new (w.alloc (.cells znd 26)) 9 #[.string ⟨#[124, 124]⟩]
    simp only [World.size_alloc] at hb
    refine .inr ⟨w.heap.size + 1, 0, 1, rfl, ⟨Nat.le_refl _, by simp⟩, fun i hi => ?_, Nat.le_refl _⟩
    rw [blk_cell hb]
    simp only [List.length_cons, List.length_nil] at hi
    rcases (show i = 0 by omega) with rfl <;> rfl)
  have HC := hid (fun w' S V => between_1 f hR (w.heap.size + 1) P L l (.slice (some ⟨w.heap.size + 1, 0, none⟩) 1 1) w' hf (by omega) S V)
  unfold znd at *
  clear H hR A1 A2
  cases hq : (pRank f (1 + 1) l).bind fun e b l => pMore f 1 e b l with
  | bad l' =>
    simp only [hq] at HC
    go_enter Tryd.func43, Tryd.ntmps43
    go_wp2_with fail
    refine (HC.out _ S0 V0).mono ?_
    rintro e w2 ⟨rfl, s2, b2⟩
    have S2 := hid s2
    have B2 := hid ((But.of A.out).trans b2)
    clear s2 b2 S0 A G0 HC V0
    unfold gaveUp
    go_wp2_with fail
    exact ⟨rfl, rfl, S2.out, B2.out⟩
  | ok x b l' =>
    simp only [hq] at HC
    go_enter Tryd.func43, Tryd.ntmps43
    go_wp2_with fail
    refine (HC.out _ S0 V0).mono ?_
    rintro e w2 ⟨⟨nv, kv, rfl, n2⟩, s2, b2⟩
    obtain ⟨a1, q1, a2, q2, rfl, rfl⟩ := ndR_shape n2
    have S3 := hid s2
    have N3 := hid (ndR_low (lo' := w.heap.size + 1) (by simp) n2)
    have B3 := hid ((But.of A.out).trans b2)
    have G3 := hid (blk_but G0.out b2 (by omega))
    have hg3 := blk_lt G3.out
    obtain ⟨r0, r1, r2, r3, r4, r5, r6⟩ := cells7 G3.out
    obtain ⟨u0, u1, u2, u3, u4, u5, u6⟩ := frees7 G3.out
    clear s2 b2 S0 A G0 HC n2 V0
    unfold ndv
    go_wp2_with fail
    have Z := fin_put hP (Nat.le_refl _) S3.out B3.out G3.out (.int .i64 x.kind) (.int .i64 x.op) (.int .i64 x.num) (.string x.str) (.slice a1 x.names.length q1) (.slice a2 x.kids.length q2) (.int .i64 x.pl)
    exact bodyPost_ret (ret_nd rfl rfl Z.1) rfl ⟨⟨_, _, rfl, ndR_low (Nat.le_succ _) (ndR_aft (put7_aft w2 (Nat.lt_succ_self _) _ _ _ _ _ _ _) N3.out)⟩, Z.2.1, Z.2.2⟩

end Go.Proofs.YtijbiedblahmhaaDoor
