/- The document's resolver: its state, its first error, what is declared. The document's lets. The document's nodes. -/
import Derived.Test.YtenpldenhgpneaaDoorJoint3
import Derived.Test.YtenpldenhgpneaaDoorRowApp
import Derived.Lib.Strings
namespace Go.Proofs.YtenpldenhgpneaaDoor
set_option linter.unusedSimpArgs false
open Go.RowKit

theorem elSt : Elem 22 9 1 16 := elem_of (z0 := .string ⟨#[]⟩) (by kernel_rfl) (by kernel_rfl) rfl
theorem bytes_ne {s t : ByteArray} (h : s ≠ t) : (s.toList == t.toList) = false := by
  rw [beq_eq_false_iff_ne, Lib.toList_data, Lib.toList_data]
  intro e
  apply h
  cases s; cases t
  simp at e
  rw [e]
/-- texts in a row -/
def TxR (v : Value) (l : List ByteArray) (w : World) : Prop := w.ownsRow 0 9 1 v l.length (l.map Value.string)
theorem txR_keep {v : Value} {l : List ByteArray} {a c : World} (h : TxR v l a) (hk : ∀ g, v.ownBlock = some g → c.heap[g]? = a.heap[g]?) : TxR v l c := row_keep h hk
theorem txR_on {v : Value} {l : List ByteArray} {a c : World} (h : TxR v l a) (k : Below a.heap.size a c) : TxR v l c := row_keep h (fun g hg => by
  obtain ⟨cur, hc⟩ := row_lt h hg
  exact k.block g (blk_lt hc))
theorem txR_nil (w : World) : TxR (.slice none 0 0) [] w := ⟨rfl, .inl ⟨rfl, rfl⟩⟩
theorem txR_at {ao : Option Addr} {cap i : Nat} {l : List ByteArray} {s : ByteArray} {w : World} (h : TxR (.slice ao l.length cap) l w) (hi : l[i]? = some s) : ∃ g, ao = some ⟨g, 0, none⟩ ∧ g < w.heap.size ∧ w.cell? ⟨g, i, none⟩ = some (.string s) := by
  have hl : i < l.length := (List.getElem?_eq_some_iff.1 hi).1
  obtain ⟨g, cap', e, _, hg⟩ := World.ownsRow.form h (by omega)
  injection e with e1 e2 e3
  subst e1 e3
  exact ⟨g, rfl, hg, row_cell h (by simp [hi])⟩
/-- the state at s -/
abbrev StD (s : Nat) (G : Int) (fv wv : Value) (er at_ : Int) (w : World) : Prop := Blk s 57 #[.int .i64 G, fv, wv, .int .i64 er, .int .i64 at_] w
theorem stD_cells {s : Nat} {G : Int} {fv wv : Value} {er at_ : Int} {w : World} (h : StD s G fv wv er at_ w) : w.cell? ⟨s, 1, none⟩ = some fv ∧ w.cell? ⟨s, 2, none⟩ = some wv ∧ w.cell? ⟨s, 3, none⟩ = some (.int .i64 er) ∧ w.cell? ⟨s, 4, none⟩ = some (.int .i64 at_) :=
  ⟨(blk_cell h 1).trans rfl, (blk_cell h 2).trans rfl, (blk_cell h 3).trans rfl, (blk_cell h 4).trans rfl⟩
theorem rfail_first {s : Nat} {G : Int} {fv wv : Value} {at_ : Int} (w : World) (h : StD s G fv wv 0 at_ w) (e a : Int) :
    Calls Tryd.prog 63 #[.pointer (some ⟨s, 0, none⟩), .int .i64 e, .int .i64 a] w fun r w' => r = .returned (.tuple #[]) ∧ StD s G fv wv e a w' ∧ Keep (fun b => b = s) w w' := by
  obtain ⟨c1, c2, c3, c4⟩ := stD_cells h
  have f3 := blk_free h 3
  have f4 := blk_free h 4
  have H := hid h
  clear h
  go_enter Tryd.func63, Tryd.ntmps63
  go_wp2_with fail
  go_end0
  exact ⟨rfl, by simpa using blk_set (blk_set H.out 3 (.int .i64 e)) 4 (.int .i64 a), (Keep.set (S := fun b => b = s) rfl w 3 _).trans (Keep.set (S := fun b => b = s) rfl _ 4 _) (fun _ _ h => h)⟩
theorem rfail_again {s : Nat} {G : Int} {fv wv : Value} {er at_ : Int} (w : World) (h : StD s G fv wv er at_ w) (her : er ≠ 0) (e a : Int) :
    Calls Tryd.prog 63 #[.pointer (some ⟨s, 0, none⟩), .int .i64 e, .int .i64 a] w fun r w' => r = .returned (.tuple #[]) ∧ w' = w := by
  obtain ⟨c1, c2, c3, c4⟩ := stD_cells h
  have hne : (er == 0) = false := by simpa using her
  clear h her
  go_enter Tryd.func63, Tryd.ntmps63
  go_wp2_with fail
  go_end0
  exact ⟨rfl, rfl⟩
def idxV (l : List ByteArray) (s : ByteArray) : Int := match idxN l s with | some i => (i : Int) | none => -1
theorem idxN_first : ∀ {L : List ByteArray} {s : ByteArray} {j : Nat}, (∀ i x, i < j → L[i]? = some x → x ≠ s) → L[j]? = some s → idxN L s = some j
  | [], s, j, _, h => by simp at h
  | x :: r, s, 0, _, h => by
    have : x = s := by simpa using h
    simp [idxN, this]
  | x :: r, s, j + 1, h1, h2 => by
    have hx : x ≠ s := h1 0 x (by omega) rfl
    have ih := idxN_first (L := r) (s := s) (j := j) (fun i e hi he => h1 (i + 1) e (by omega) (by simpa using he)) (by simpa using h2)
    simp [idxN, hx, ih]
theorem idxN_none : ∀ {L : List ByteArray} {s : ByteArray}, (∀ x ∈ L, x ≠ s) → idxN L s = none
  | [], _, _ => rfl
  | x :: r, s, h => by
    unfold idxN
    rw [if_neg (h x (by simp)), idxN_none (fun y hy => h y (by simp [hy]))]; rfl
set_option maxHeartbeats 1000000 in
theorem rfindD_calls {v : Value} {l : List ByteArray} (w : World) (h : TxR v l w) (s : ByteArray) (hl : l.length ≤ 1000000) :
    Calls Tryd.prog 62 #[v, .string s] w fun e w' => e = .returned (.int .i64 (idxV l s)) ∧ w' = w := by
  obtain ⟨ao, cap, rfl⟩ := row_shape h
  have H := hid h
  clear h
  go_enter Tryd.func62, Tryd.ntmps62
  go_wp2_with fail
  go_loopw [5] (fun i wr => ∃ j : Nat, j ≤ l.length ∧ i = .int .i64 j ∧ Hid (∀ i x, i < j → l[i]? = some x → x ≠ s) ∧ wr = w) (fun i _ => l.length - (intOf i).toNat)
  case atStart => exact ⟨0, by omega, rfl, hid (fun i e hi => absurd hi (Nat.not_lt_zero _)), rfl⟩
  case round =>
    obtain ⟨j, hj, rfl, hA, rfl⟩ := hrel
    by_cases hjl : j < l.length
    · obtain ⟨e, he⟩ : ∃ e, l[j]? = some e := ⟨l[j], List.getElem?_eq_getElem hjl⟩
      obtain ⟨g, rfl, hg, c2⟩ := txR_at H.out he
      by_cases hes : e = s
      · have HV := hid (show idxV l s = (j : Int) by unfold idxV; rw [idxN_first hA.out (by rw [he, hes])])
        rw [hes] at c2
        clear hes he
        go_wp2_with fail
        go_ret
        exact ⟨by rw [HV.out]; rfl, rfl⟩
      · have hnb := bytes_ne hes
        have HA := hid (show ∀ i x, i < j + 1 → l[i]? = some x → x ≠ s from fun i e' hi he' => by
          rcases Nat.lt_or_ge i j with h1 | h1
          · exact hA.out i e' h1 he'
          · have : i = j := by omega
            subst this
            rw [he] at he'
            cases he'
            exact hes)
        clear hes hA
        go_wp2_with fail
        exact ⟨⟨j + 1, by omega, by simp, HA, trivial⟩, by simp [intOf]; omega⟩
    · have hje : j = l.length := by omega
      subst hje
      have HV := hid (show idxV l s = -1 by
        unfold idxV
        rw [idxN_none (fun e he => by
          obtain ⟨i, hi⟩ := List.getElem?_of_mem he
          exact hA.out i e (List.getElem?_eq_some_iff.1 hi).1 hi)])
      go_wp2_with fail
      go_ret
      exact ⟨by rw [HV.out]; rfl, rfl⟩
def declA (l : List ByteArray) (x : ByteArray) (at_ a : Int) : Int := if declE l x = 0 then at_ else a
/-- what a call of the document's may write: the state, and a row of texts -/
def WS (s : Nat) (v : Value) (b : Nat) : Prop := b = s ∨ v.ownBlock = some b
theorem txR_ne_st {v : Value} {l : List ByteArray} {s : Nat} {G : Int} {fv wv : Value} {er at_ : Int} {w : World} (h : TxR v l w) (hs : StD s G fv wv er at_ w) : v.ownBlock ≠ some s := fun e => by
  obtain ⟨cur, hc⟩ := row_lt h e
  have h1 : w.heap[s]? = _ := hc
  have h2 : w.heap[s]? = _ := hs
  rw [h1] at h2
  simp only [Option.some.injEq, Obj.cells.injEq] at h2
  exact absurd h2.2.1 (by decide)

set_option maxHeartbeats 2000000 in
theorem rdeclare_calls {s : Nat} {G : Int} {fv wv v : Value} {at_ : Int} {l : List ByteArray} (w : World) (h : StD s G fv wv 0 at_ w) (hv : TxR v l w) (hl : l.length ≤ 24) (x : ByteArray) (a : Int) :
    Calls Tryd.prog 40 #[.pointer (some ⟨s, 0, none⟩), v, .string x, .int .i64 a] w fun r w' => ∃ v', r = .returned v' ∧ TxR v' (l ++ [x]) w' ∧ StD s G fv wv (declE l x) (declA l x at_ a) w' ∧ Keep (WS s v) w w' ∧ ∀ g, v'.ownBlock = some g → v.ownBlock = some g ∨ w.heap.size ≤ g := by
  obtain ⟨ao, cap, rfl⟩ := row_shape hv
  have hne := txR_ne_st hv h
  have HF := hid (rfindD_calls w hv x (by omega))
  have H := hid h
  have HV := hid hv
  have HN := hid hne
  have hs := blk_lt h
  clear h hv hne
  -- the end: one text more
  have fin : ∀ (wc : World) (er a' : Int), StD s G fv wv er a' wc → Keep (fun b => b = s) w wc → (er = declE l x ∧ a' = declA l x at_ a) →
      Hid (TxR (.slice ao l.length cap) l wc ∧ StD s G fv wv (declE l x) (declA l x at_ a) wc ∧ Keep (fun b => b = s) w wc) := fun wc er a' h1 h2 h3 => by
    obtain ⟨rfl, rfl⟩ := h3
    exact hid ⟨txR_keep HV.out (fun g hg => h2.block g (by obtain ⟨cur, hc⟩ := row_lt HV.out hg; exact blk_lt hc) (fun e => HN.out (by rw [hg, e]))), h1, h2⟩
  have HFIN := hid fin
  clear fin
  have app : ∀ (wc w3 : World) (g cp : Nat), TxR (.slice ao l.length cap) l wc ∧ StD s G fv wv (declE l x) (declA l x at_ a) wc ∧ Keep (fun b => b = s) w wc →
      w3.ownsRow 0 9 1 (.slice (some ⟨g, 0, none⟩) (l.length + 1) cp) (l.length + 1) (l.map Value.string ++ [.string x]) → wc.grownBy w3 (Value.slice ao l.length cap).ownBlock → ((Value.slice ao l.length cap).ownBlock = some g ∨ wc.heap.size ≤ g) →
      TxR (.slice (some ⟨g, 0, none⟩) (l.length + 1) cp) (l ++ [x]) w3 ∧ StD s G fv wv (declE l x) (declA l x at_ a) w3 ∧ Keep (WS s (.slice ao l.length cap)) w w3 ∧ ∀ g', (Value.slice (some ⟨g, 0, none⟩) (l.length + 1) cp).ownBlock = some g' → (Value.slice ao l.length cap).ownBlock = some g' ∨ w.heap.size ≤ g' := fun wc w3 g cp hc hown hgrow hat => by
    have K3 : Keep (fun b => (Value.slice ao l.length cap).ownBlock = some b) wc w3 := Keep.grown hgrow (fun k hk => hk)
    have hz := hc.2.2.size
    refine ⟨?_, blk_keep hc.2.1 K3 HN.out, (hc.2.2.mono (T := WS s (.slice ao l.length cap)) (fun b _ e => .inl e)).trans K3 (fun b _ e => .inr e), fun g' hg' => ?_⟩
    · unfold TxR
      rw [List.length_append, List.map_append]
      exact hown
    · simp [Value.ownBlock] at hg'
      subst hg'
      rcases hat with h | h
      · exact .inl h
      · exact .inr (by omega)
  have HAPP := hid app
  clear app
  have arm : l.length ≤ 1000000 := by omega
  cases hi : idxN l x with
  | some i =>
    have hV : idxV l x = (i : Int) := by unfold idxV; rw [hi]
    have hE : declE l x = 15 := by unfold declE; rw [hi]; rfl
    rw [hV] at HF
    have HE := hid hE
    have d1 : decide ((0 : Int) ≤ (i : Int)) = true := decide_eq_true (by omega)
    clear hV hi hE
    go_enter Tryd.func40, Tryd.ntmps40
    go_wp2_with fail
    refine HF.out.mono ?_
    rintro e1 w1 ⟨rfl, rfl⟩
    go_wp2_with fail
    refine (rfail_first _ H.out 15 a).mono ?_
    rintro e2 w2 ⟨rfl, h2, k2⟩
    have F := HFIN.out w2 15 a h2 k2 ⟨HE.out.symm, by unfold declA; rw [HE.out]; rfl⟩
    have H2 := hid h2
    clear h2 k2
    by_cases h24 : l.length = 24
    · have d2 : decide ((24 : Int) ≤ (l.length : Int)) = true := decide_eq_true (by omega)
      have HX := hid F.out.1
      clear h24
      go_wp2_with fail
      refine (rfail_again _ H2.out (by decide) 5 a).mono ?_
      rintro e3 w3 ⟨rfl, rfl⟩
      go_wp2_with (first | (at_builtin; refine row_app elSt (by decide) (by decide) rfl _ _ rfl l.length (l.map Value.string) [.string x] rfl (by intro u hu; simp at hu; subst hu; rfl) (.slice ao l.length cap) (by rfl) HX.out w3.heap.size (by rfl) rfl arm ?_; intro g cp w4 hown hgrow hat; have R := hid (HAPP.out _ _ _ _ F.out hown hgrow hat); clear hown hgrow hat) | fail)
      go_ret
      exact ⟨_, rfl, R.out⟩
    · have d2 : decide ((24 : Int) ≤ (l.length : Int)) = false := decide_eq_false (by omega)
      have HX := hid F.out.1
      clear h24
      go_wp2_with (first | (at_builtin; refine row_app elSt (by decide) (by decide) rfl _ _ rfl l.length (l.map Value.string) [.string x] rfl (by intro u hu; simp at hu; subst hu; rfl) (.slice ao l.length cap) (by rfl) HX.out w2.heap.size (by rfl) rfl arm ?_; intro g cp w4 hown hgrow hat; have R := hid (HAPP.out _ _ _ _ F.out hown hgrow hat); clear hown hgrow hat) | fail)
      go_ret
      exact ⟨_, rfl, R.out⟩
  | none =>
    have hV : idxV l x = -1 := by unfold idxV; rw [hi]
    rw [hV] at HF
    by_cases h24 : l.length = 24
    · have hE : declE l x = 5 := by unfold declE; rw [hi, if_pos h24]; rfl
      have HE := hid hE
      have d2 : decide ((24 : Int) ≤ (l.length : Int)) = true := decide_eq_true (by omega)
      clear hV hi hE h24
      go_enter Tryd.func40, Tryd.ntmps40
      go_wp2_with fail
      refine HF.out.mono ?_
      rintro e1 w1 ⟨rfl, rfl⟩
      go_wp2_with fail
      refine (rfail_first _ H.out 5 a).mono ?_
      rintro e2 w2 ⟨rfl, h2, k2⟩
      have F := HFIN.out w2 5 a h2 k2 ⟨HE.out.symm, by unfold declA; rw [HE.out]; rfl⟩
      have HX := hid F.out.1
      clear h2 k2
      go_wp2_with (first | (at_builtin; refine row_app elSt (by decide) (by decide) rfl _ _ rfl l.length (l.map Value.string) [.string x] rfl (by intro u hu; simp at hu; subst hu; rfl) (.slice ao l.length cap) (by rfl) HX.out w2.heap.size (by rfl) rfl arm ?_; intro g cp w4 hown hgrow hat; have R := hid (HAPP.out _ _ _ _ F.out hown hgrow hat); clear hown hgrow hat) | fail)
      go_ret
      exact ⟨_, rfl, R.out⟩
    · have hE : declE l x = 0 := by unfold declE; rw [hi, if_neg h24]; rfl
      have HE := hid hE
      have d2 : decide ((24 : Int) ≤ (l.length : Int)) = false := decide_eq_false (by omega)
      clear hV hi hE h24
      go_enter Tryd.func40, Tryd.ntmps40
      go_wp2_with fail
      refine HF.out.mono ?_
      rintro e1 w1 ⟨rfl, rfl⟩
      have F := HFIN.out w1 0 at_ H.out (Keep.refl _ _) ⟨HE.out.symm, by unfold declA; rw [HE.out]; rfl⟩
      have HX := hid F.out.1
      go_wp2_with (first | (at_builtin; refine row_app elSt (by decide) (by decide) rfl _ _ rfl l.length (l.map Value.string) [.string x] rfl (by intro u hu; simp at hu; subst hu; rfl) (.slice ao l.length cap) (by rfl) HX.out w1.heap.size (by rfl) rfl arm ?_; intro g cp w4 hown hgrow hat; have R := hid (HAPP.out _ _ _ _ F.out hown hgrow hat); clear hown hgrow hat) | fail)
      go_ret
      exact ⟨_, rfl, R.out⟩

end Go.Proofs.YtenpldenhgpneaaDoor

namespace Go.Proofs.YtenpldenhgpneaaDoor
set_option linter.unusedSimpArgs false
open Go.RowKit

/-- what comes of lets -/
def LetsPost (s : Nat) (G : Int) (fv wv : Value) (at_ : Int) (x : Rz (List ByteArray)) (v' : Value) (w' : World) : Prop := match x with
  | .ok acc => TxR v' acc w' ∧ acc.length ≤ 24 ∧ StD s G fv wv 0 at_ w'
  | .bad p e => e ≠ 0 ∧ (∃ l, TxR v' l w' ∧ l.length ≤ 1000000) ∧ StD s G fv wv e p w'
def LetsD (ks : List Nd) : Prop := ∀ (s : Nat) (G : Int) (fv wv : Value) (at_ : Int) (v : Value) (acc : List ByteArray) (kv : Value) (B : Nat) (w : World),
  Hid (StD s G fv wv 0 at_ w) → Hid (TxR v acc w) → acc.length ≤ 24 → Hid (KidsIn B w kv ks) → B ≤ w.heap.size → B ≤ s → Hid (∀ g, v.ownBlock = some g → B ≤ g) → ks.length ≤ 1000000 →
  Calls Tryd.prog 23 #[.pointer (some ⟨s, 0, none⟩), v, kv] w fun r w' => ∃ v', r = .returned v' ∧ LetsPost s G fv wv at_ (letL ks acc) v' w' ∧ Keep (WS s v) w w' ∧ ∀ g, v'.ownBlock = some g → v.ownBlock = some g ∨ w.heap.size ≤ g
theorem letL_drop {ks : List Nd} {j : Nat} {x : Nd} {acc : List ByteArray} (h : ks[j]? = some x) : letL (ks.drop j) acc = (letN x acc).bind fun acc' => letL (ks.drop (j + 1)) acc' := by
  obtain ⟨hl, he⟩ := List.getElem?_eq_some_iff.1 h
  rw [List.drop_eq_getElem_cons hl, he, letL]
theorem letN_eq (x : Nd) (acc : List ByteArray) : letN x acc = if x.kind = 21 then declR acc x.str x.pl else if x.kind = 28 ∨ x.kind = 29 ∨ x.kind = 30 then letL x.kids acc else .ok acc := by
  obtain ⟨k, o, n, s, ns, ks, p⟩ := x
  rw [letN]; rfl
theorem declR_of {l : List ByteArray} {s : ByteArray} {p : Int} : declR l s p = if declE l s = 0 then .ok (l ++ [s]) else .bad p (declE l s) := rfl
theorem ws_trans {s : Nat} {v v' : Value} {a b c : World} (h : Keep (WS s v) a b) (k : Keep (WS s v') b c) (ho : ∀ g, v'.ownBlock = some g → v.ownBlock = some g ∨ a.heap.size ≤ g) : Keep (WS s v) a c :=
  h.trans k (fun i hi e => by
    rcases e with e | e
    · exact .inl e
    · rcases ho i e with h1 | h1
      · exact .inr h1
      · omega)

set_option maxRecDepth 100000 in
set_option maxHeartbeats 4000000 in
theorem letsD_of (ks : List Nd) (ih : ∀ x ∈ ks, LetsD x.kids) (hlk : ∀ x ∈ ks, x.kids.length ≤ 1000000) : LetsD ks := by
  intro s G fv wv at_ v acc kv B w hS hV ha hN hB hBs hvB hf
  obtain ⟨ka, kc, rfl, _⟩ := kidsIn_cases hN.out
  obtain ⟨va, vc, rfl⟩ := row_shape hV.out
  have HIH := hid ih
  have HLK := hid hlk
  have hsl := blk_lt hS.out
  clear ih hlk
  go_enter Tryd.func23, Tryd.ntmps23
  go_wp2_with fail
  go_loopw [1, 7] (fun u i wr => ∃ (j : Nat), j ≤ ks.length ∧ (∃ ua un uc, u = .slice ua un uc) ∧ i = .int .i64 j ∧ Hid (Keep (WS s (.slice va acc.length vc)) w wr) ∧ Hid (∀ g, u.ownBlock = some g → (Value.slice va acc.length vc).ownBlock = some g ∨ w.heap.size ≤ g) ∧
    ((∃ accj, Hid (TxR u accj wr) ∧ accj.length ≤ 24 ∧ Hid (StD s G fv wv 0 at_ wr) ∧ Hid (letL ks acc = letL (ks.drop j) accj)) ∨ (∃ p e, e ≠ 0 ∧ Hid (letL ks acc = .bad p e) ∧ Hid (∃ l, TxR u l wr ∧ l.length ≤ 1000000) ∧ Hid (StD s G fv wv e p wr)))) (fun _ i _ => ks.length - (intOf i).toNat)
  case atStart => exact ⟨0, by omega, ⟨_, _, _, rfl⟩, rfl, hid (Keep.refl _ _), hid (fun g h => .inl h), .inl ⟨acc, hV, ha, hS, hid (by rw [List.drop_zero])⟩⟩
  case round =>
    obtain ⟨j, hj, ⟨ua, un, uc, rfl⟩, rfl, hK, hO, hAB⟩ := hrel
    have hzk := hK.out.size
    have hsr : s < wr.heap.size := by omega
    rcases hAB with ⟨accj, hT, hl24, hSt, hE⟩ | ⟨p, e, he, hE, hT, hSt⟩
    · obtain ⟨c1, c2, c3, c4⟩ := stD_cells hSt.out
      by_cases hjl : j < ks.length
      · obtain ⟨x, hx⟩ : ∃ e, ks[j]? = some e := ⟨ks[j], List.getElem?_eq_getElem hjl⟩
        have hKB : Below B w wr := hK.out.below hB (fun b e => by
          rcases e with e | e
          · omega
          · exact hvB.out b e)
        obtain ⟨b, off, a1, c1', a2, c2', rfl, hb, hNA, hNI⟩ := kid_node (kidsIn_on hKB hN.out) hx
        obtain ⟨n0, n1, n2, n3, n4, n5, n6⟩ := hNA
        have hbr : b < wr.heap.size := by omega
        have hmem := List.mem_of_getElem? hx
        have HED := hid (hE.out.trans (letL_drop hx))
        -- the box of the node
        have A := (Below.refl wr.heap.size wr).alloc (Nat.le_refl _) (.cells #[.int .i64 x.kind, .int .i64 x.op, .int .i64 x.num, .string x.str, .slice a1 x.names.length c1', .slice a2 x.kids.length c2', .int .i64 x.pl] 25)
        have x1 := blk_new wr 25 #[.int .i64 x.kind, .int .i64 x.op, .int .i64 x.num, .string x.str, .slice a1 x.names.length c1', .slice a2 x.kids.length c2', .int .i64 x.pl]
        have S1 := hid (blk_on hSt.out A)
        have T1 := hid (txR_on hT.out A)
        have K1 := hid (hK.out.trans (Keep.of (S := WS s (.slice va acc.length vc)) A) (fun _ _ h => h))
        have N1 := hid (ndIn_on (A.mono (by omega)) _ _ _ hNI)
        have hzb : wr.heap.size < (wr.alloc (.cells #[.int .i64 x.kind, .int .i64 x.op, .int .i64 x.num, .string x.str, .slice a1 x.names.length c1', .slice a2 x.kids.length c2', .int .i64 x.pl] 25)).heap.size := blk_lt x1
        generalize hW1 : wr.alloc (.cells #[.int .i64 x.kind, .int .i64 x.op, .int .i64 x.num, .string x.str, .slice a1 x.names.length c1', .slice a2 x.kids.length c2', .int .i64 x.pl] 25) = w1 at *
        have X1 := hid x1
        have k0 : w1.cell? ⟨wr.heap.size, 0, none⟩ = some (.int .i64 x.kind) := (blk_cell x1 0).trans rfl
        have k3 : w1.cell? ⟨wr.heap.size, 3, none⟩ = some (.string x.str) := (blk_cell x1 3).trans rfl
        have k5 : w1.cell? ⟨wr.heap.size, 5, none⟩ = some (.slice a2 x.kids.length c2') := (blk_cell x1 5).trans rfl
        have k6 : w1.cell? ⟨wr.heap.size, 6, none⟩ = some (.int .i64 x.pl) := (blk_cell x1 6).trans rfl
        have hBr : B ≤ w1.heap.size := by omega
        have hO1 := hid (show ∀ g, (Value.slice ua un uc).ownBlock = some g → B ≤ g from fun g hg => by
          rcases hO.out g hg with h | h
          · exact hvB.out g h
          · omega)
        have hob := hid (show (Value.slice ua un uc).ownBlock ≠ some wr.heap.size from fun e => by
          obtain ⟨cur, hc⟩ := row_lt hT.out e
          have := blk_lt hc
          omega)
        have hsz1 := K1.out.size
        clear A x1 hT hK hSt hNI hE hx hN hS hV
        by_cases h21 : x.kind = 21
        · have q21 : (x.kind == 21) = true := by simpa using h21
          have q28 : (x.kind == 28) = false := by rw [h21]; rfl
          have q29 : (x.kind == 29) = false := by rw [h21]; rfl
          have q30 : (x.kind == 30) = false := by rw [h21]; rfl
          have HL := hid (show letN x accj = declR accj x.str x.pl by rw [letN_eq, if_pos h21])
          clear h21
          go_wp2_with fail
          refine (rdeclare_calls _ S1.out T1.out hl24 x.str x.pl).mono ?_
          rintro e2 w2 ⟨v2, rfl, t2, s2, k2, o2⟩
          obtain ⟨ta, tc, et⟩ := row_shape t2
          rw [List.length_append] at et
          replace et : v2 = .slice ta (accj.length + 1) tc := et
          subst et
          have y0 : w2.cell? ⟨wr.heap.size, 0, none⟩ = some (.int .i64 x.kind) := (blk_cell (blk_keep X1.out k2 (fun e => by
            rcases e with e | e
            · omega
            · exact hob.out e)) 0).trans rfl
          have T2 := hid t2
          have S2 := hid s2
          have K2 := hid (ws_trans K1.out k2 hO.out)
          have O2 := hid (show ∀ g, (Value.slice ta (accj.length + 1) tc).ownBlock = some g → (Value.slice va acc.length vc).ownBlock = some g ∨ w.heap.size ≤ g from fun g hg => by
            rcases o2 g hg with h | h
            · exact hO.out g h
            · exact .inr (by omega))
          clear t2 s2 k2 o2
          go_wp2_with fail
          refine ⟨⟨j + 1, by omega, ⟨_, _, _, rfl⟩, by simp, K2, O2, ?_⟩, by simp [intOf]; omega⟩
          by_cases hD : declE accj x.str = 0
          · refine .inl ⟨accj ++ [x.str], T2, ?_, hid (by have := S2.out; unfold declA at this; rw [if_pos hD, hD] at this; exact this), hid (by rw [HED.out, HL.out, declR_of, if_pos hD]; rfl)⟩
            exact declR_len (p := x.pl) hl24 (by rw [declR_of, if_pos hD])
          · refine .inr ⟨x.pl, declE accj x.str, hD, hid (by rw [HED.out, HL.out, declR_of, if_neg hD]; rfl), hid ⟨_, T2.out, by simp; omega⟩, hid (by have := S2.out; unfold declA at this; rw [if_neg hD] at this; exact this)⟩
        · have q21 : (x.kind == 21) = false := by simpa using h21
          by_cases hR : x.kind = 28 ∨ x.kind = 29 ∨ x.kind = 30
          · have HL := hid (show letN x accj = letL x.kids accj by rw [letN_eq, if_neg h21, if_pos hR])
            have hk1 : KidsIn B w1 (.slice a2 x.kids.length c2') x.kids := by
              obtain ⟨k, o, n, s, ns, ks, p⟩ := x
              exact (ndIn_mk.1 N1.out).2
            have IC := hid (HIH.out x hmem s G fv wv at_ (.slice ua un uc) accj (.slice a2 x.kids.length c2') B w1 S1 T1 hl24 (hid hk1) hBr hBs hO1 (HLK.out x hmem))
            have ways : (x.kind == 28) = true ∨ ((x.kind == 28) = false ∧ (x.kind == 29) = true) ∨ ((x.kind == 28) = false ∧ (x.kind == 29) = false ∧ (x.kind == 30) = true) := by
              rcases hR with h | h | h
              · exact .inl (by simpa using h)
              · exact .inr (.inl ⟨by rw [h]; rfl, by simpa using h⟩)
              · exact .inr (.inr ⟨by rw [h]; rfl, by rw [h]; rfl, by simpa using h⟩)
            clear h21 hR hk1
            rcases ways with q28 | ⟨q28, q29⟩ | ⟨q28, q29, q30⟩
            all_goals
              go_wp2_with fail
              refine IC.out.mono ?_
              rintro e2 w2 ⟨v2, rfl, hp, k2, o2⟩
              have K2 := hid (ws_trans K1.out k2 hO.out)
              have O2 := hid (show ∀ g, v2.ownBlock = some g → (Value.slice va acc.length vc).ownBlock = some g ∨ w.heap.size ≤ g from fun g hg => by
                rcases o2 g hg with h | h
                · exact hO.out g h
                · exact .inr (by omega))
              have HPP := hid hp
              have hsh : ∃ ta tn tc, v2 = .slice ta tn tc := by
                cases hc : letL x.kids accj with
                | ok a => rw [hc] at hp; obtain ⟨ta, tc, rfl⟩ := row_shape hp.1; exact ⟨_, _, _, rfl⟩
                | bad p e => rw [hc] at hp; obtain ⟨_, ⟨l, hl, _⟩, _⟩ := hp; obtain ⟨ta, tc, rfl⟩ := row_shape hl; exact ⟨_, _, _, rfl⟩
              clear hp k2 o2
              go_wp2_with fail
              refine ⟨⟨j + 1, by omega, hsh, by simp, K2, O2, ?_⟩, by simp [intOf]; omega⟩
              have hp := HPP.out
              cases hc : letL x.kids accj with
              | ok a =>
                rw [hc] at hp
                exact .inl ⟨a, hid hp.1, hp.2.1, hid hp.2.2, hid (by rw [HED.out, HL.out, hc]; rfl)⟩
              | bad p e =>
                rw [hc] at hp
                exact .inr ⟨p, e, hp.1, hid (by rw [HED.out, HL.out, hc]; rfl), hid hp.2.1, hid hp.2.2⟩
          · have q28 : (x.kind == 28) = false := by simp; exact fun h => hR (.inl h)
            have q29 : (x.kind == 29) = false := by simp; exact fun h => hR (.inr (.inl h))
            have q30 : (x.kind == 30) = false := by simp; exact fun h => hR (.inr (.inr h))
            have HL := hid (show letN x accj = .ok accj by rw [letN_eq, if_neg h21, if_neg hR])
            clear h21 hR
            go_wp2_with fail
            exact ⟨⟨j + 1, by omega, ⟨_, _, _, rfl⟩, by simp, K1, hO, .inl ⟨accj, T1, hl24, S1, hid (by rw [HED.out, HL.out]; rfl)⟩⟩, by simp [intOf]; omega⟩
      · have hje : j = ks.length := by omega
        subst hje
        have HE2 := hid (hE.out.trans (by rw [List.drop_length, letL] : _ = Rz.ok accj))
        go_wp2_with fail
        go_ret
        exact ⟨_, rfl, by rw [HE2.out]; exact ⟨hT.out, hl24, hSt.out⟩, hK.out, hO.out⟩
    · obtain ⟨c1, c2, c3, c4⟩ := stD_cells hSt.out
      have hne : (e == 0) = false := by simpa using he
      have HE := hid he
      clear he
      by_cases hjl : j < ks.length
      · go_wp2_with fail
        go_ret
        exact ⟨_, rfl, by rw [hE.out]; exact ⟨HE.out, hT.out, hSt.out⟩, hK.out, hO.out⟩
      · have hje : j = ks.length := by omega
        subst hje
        go_wp2_with fail
        go_ret
        exact ⟨_, rfl, by rw [hE.out]; exact ⟨HE.out, hT.out, hSt.out⟩, hK.out, hO.out⟩
theorem letsD_calls (ks : List Nd) (hc : countL ks ≤ 1000000) : LetsD ks := by
  have all : ∀ t : Nd, countN t ≤ 1000000 → LetsD t.kids := by
    intro t
    refine Nd.ind (P := fun t => countN t ≤ 1000000 → LetsD t.kids) ?_ t
    intro k o n s ns ks p ih hcn
    have h1 : countL ks ≤ 1000000 := by rw [countN] at hcn; omega
    refine letsD_of ks (fun x hx => ih x hx (Nat.le_trans (count_mem hx) h1)) (fun x hx => ?_)
    have h2 := count_mem hx
    obtain ⟨k', o', n', s', ns', ks', p'⟩ := x
    have h3 := countL_len ks'
    rw [countN] at h2
    show ks'.length ≤ _
    omega
  refine letsD_of ks (fun x hx => all x (Nat.le_trans (count_mem hx) hc)) (fun x hx => ?_)
  have h2 := count_mem hx
  obtain ⟨k', o', n', s', ns', ks', p'⟩ := x
  have h3 := countL_len ks'
  rw [countN] at h2
  show ks'.length ≤ _
  omega

end Go.Proofs.YtenpldenhgpneaaDoor

namespace Go.Proofs.YtenpldenhgpneaaDoor
set_option linter.unusedSimpArgs false
set_option linter.unusedVariables false
open Go.RowKit

theorem elNd : Elem 23 25 7 96 := elem_of (z0 := .agg #[.int .i64 0, .int .i64 0, .int .i64 0, .string ⟨#[]⟩, .slice none 0 0, .slice none 0 0, .int .i64 0]) (by kernel_rfl) (by kernel_rfl) rfl
theorem blkD_not {b : Nat} {ty ty' : TypeId} {cs : Array Value} {a : World} (h : Blk b ty cs a) (hn : ty ≠ ty') : ∀ cs', ¬ Blk b ty' cs' a := fun cs' h' => by
  have h1 : a.heap[b]? = _ := h
  have h2 : a.heap[b]? = _ := h'
  rw [h1] at h2
  simp only [Option.some.injEq, Obj.cells.injEq] at h2
  exact hn h2.2.1
/-- functions and the whole's names beside the state -/
structure DSt (s : Nat) (fv wv : Value) (gl : List ByteArray) (fs : List Fp) (ok : Nat → Prop) (w : World) : Prop where
  fn : FnsS ok w fv fs
  wh : TxR wv gl w
  lt : ∀ b, ok b → b < w.heap.size
  ns : ¬ ok s
/-- what the document's nodes may write -/
def FD (s : Nat) (fv : Value) (b : Nat) : Prop := b = s ∨ fv.ownBlock = some b
theorem fd_not {s : Nat} {G : Int} {fv wv : Value} {er at_ : Int} {fs : List Fp} {ok : Nat → Prop} {w : World} {b : Nat} {T : TypeId} {cs : Array Value} (hs : StD s G fv wv er at_ w) (hf : FnsS ok w fv fs) (hb : Blk b T cs w) (h1 : T ≠ 57) (h2 : T ≠ 45) : ¬ FD s fv b := by
  rintro (e | e)
  · rw [e] at hb
    exact blkD_not hs (fun e => h1 e.symm) _ hb
  · obtain ⟨cur, hc⟩ := fnsS_lt hf e
    exact blkD_not hc (fun e => h2 e.symm) _ hb
theorem txR_fd {s : Nat} {G : Int} {fv wv : Value} {er at_ : Int} {fs : List Fp} {ok : Nat → Prop} {v : Value} {l : List ByteArray} {a c : World} (h : TxR v l a) (hs : StD s G fv wv er at_ a) (hf : FnsS ok a fv fs) (k : Keep (FD s fv) a c) : TxR v l c :=
  txR_keep h (fun g hg => by
    obtain ⟨cur, hc⟩ := row_lt h hg
    exact k.block g (blk_lt hc) (fd_not hs hf hc (by decide) (by decide)))
/-- behind a node, or nodes -/
structure WentD (s : Nat) (G : Int) (fv fv' wv : Value) (at_ : Int) (gl : List ByteArray) (fs' : List Fp) (ok ok' : Nat → Prop) (w w' : World) : Prop where
  st : StD s G fv' wv 0 at_ w'
  ds : DSt s fv' wv gl fs' ok' w'
  keep : Keep (FD s fv) w w'
  row : ∀ g, fv'.ownBlock = some g → fv.ownBlock = some g ∨ w.heap.size ≤ g
  up : ∀ b, ok b → ok' b
  only : ∀ b, ok' b → ok b ∨ w.heap.size ≤ b
  few : fs'.length ≤ 32
/-- behind an error -/
structure BadD (s : Nat) (G : Int) (fv wv : Value) (n : Nat) (p e : Int) (w w' : World) : Prop where
  er : e ≠ 0
  keep : Keep (FD s fv) w w'
  left : ∃ fv' L cs, StD s G fv' wv e p w' ∧ n ≤ L ∧ L ≤ 1000000 ∧ w'.ownsRow 0 45 3 fv' L cs ∧ ∀ g, fv'.ownBlock = some g → fv.ownBlock = some g ∨ w.heap.size ≤ g
def NodeOutD (s : Nat) (G : Int) (fv wv : Value) (at_ : Int) (gl : List ByteArray) (nf : Nat) (ok : Nat → Prop) (w : World) (x : Rz (Nd × List Fp)) (r : Ending) (w' : World) : Prop := match x with
  | .ok (t, fs') => ∃ nv kv fv' ok', r = .returned (ndV t nv kv) ∧ NdS ok' w' t nv kv ∧ WentD s G fv fv' wv at_ gl fs' ok ok' w w'
  | .bad p e => ∃ (k o n : Int) (z : ByteArray) (a1 : Option Addr) (n1 c1 : Nat) (a2 : Option Addr) (n2 c2 : Nat) (q : Int), r = .returned (.agg #[.int .i64 k, .int .i64 o, .int .i64 n, .string z, .slice a1 n1 c1, .slice a2 n2 c2, .int .i64 q]) ∧ BadD s G fv wv nf p e w w'
def NodesOutD (s : Nat) (G : Int) (fv wv : Value) (at_ : Int) (gl : List ByteArray) (nf : Nat) (ok : Nat → Prop) (w : World) (x : Rz (List Nd × List Fp)) (r : Ending) (w' : World) : Prop := match x with
  | .ok (l, fs') => ∃ kv fv' ok', r = .returned kv ∧ KidsS ok' w' kv l ∧ WentD s G fv fv' wv at_ gl fs' ok ok' w w'
  | .bad p e => ∃ (a1 : Option Addr) (n1 c1 : Nat), r = .returned (.slice a1 n1 c1) ∧ BadD s G fv wv nf p e w w'
def NodeD (t : Nd) : Prop := ∀ (s : Nat) (G : Int) (fv wv : Value) (at_ : Int) (gl lo : List ByteArray) (ov : Value) (fs : List Fp) (ok : Nat → Prop) (nv kv : Value) (B : Nat) (w : World),
  Hid (StD s G fv wv 0 at_ w) → Hid (DSt s fv wv gl fs ok w) → Hid (TxR ov lo w) → lo.length ≤ 24 → gl.length ≤ 24 → Hid (NdIn B w t nv kv) → B ≤ w.heap.size → B ≤ s → Hid (∀ g, fv.ownBlock = some g → B ≤ g) → Hid (∀ b, b < B → ok b) → smallN t = true → countN t ≤ 1000000 → fs.length ≤ 32 →
  Calls Tryd.prog 41 #[.pointer (some ⟨s, 0, none⟩), ndV t nv kv, ov] w (NodeOutD s G fv wv at_ gl fs.length ok w (resN gl t lo fs))
def NodesD (ks : List Nd) : Prop := ∀ (s : Nat) (G : Int) (fv wv : Value) (at_ : Int) (gl lo : List ByteArray) (ov : Value) (fs : List Fp) (ok : Nat → Prop) (kv : Value) (B : Nat) (w : World),
  Hid (StD s G fv wv 0 at_ w) → Hid (DSt s fv wv gl fs ok w) → Hid (TxR ov lo w) → lo.length ≤ 24 → gl.length ≤ 24 → Hid (KidsIn B w kv ks) → B ≤ w.heap.size → B ≤ s → Hid (∀ g, fv.ownBlock = some g → B ≤ g) → Hid (∀ b, b < B → ok b) → (∀ x ∈ ks, smallN x = true) → countL ks ≤ 1000000 → fs.length ≤ 32 →
  Calls Tryd.prog 24 #[.pointer (some ⟨s, 0, none⟩), kv, ov] w (NodesOutD s G fv wv at_ gl fs.length ok w (resL gl ks lo fs))

/-- one node more, of one's own -/
theorem outS_moreD {ok : Nat → Prop} {w w' : World} {v : Value} {ks : List Nd} {cs : List Value} {y : Nd} {nv kv : Value} {g cap : Nat} (hr : RowS ok w ks cs) (hnk : ∀ g, v.ownBlock = some g → ¬ ok g) (hup : ∀ b, ok b → b < w.heap.size) (hY : NdS ok w y nv kv)
    (hown : w'.ownsRow 0 25 7 (.slice (some ⟨g, 0, none⟩) (ks.length + 1) cap) (ks.length + 1) (cs ++ ndl y nv kv)) (hgrow : w.grownBy w' v.ownBlock) (hat : v.ownBlock = some g ∨ w.heap.size ≤ g) : OutS ok w' (.slice (some ⟨g, 0, none⟩) (ks.length + 1) cap) (ks ++ [y]) := by
  have keep : ∀ k, ok k → ok k ∧ w'.heap[k]? = w.heap[k]? := fun k hk => ⟨hk, hgrow.block k (hup k hk) (fun e => hnk k e.symm hk)⟩
  refine ⟨_, by rw [List.length_append]; exact hown, rowS_snoc (ndS_keep keep _ _ _ hY) (rowS_keep keep hr), fun k hk => ?_⟩
  simp [Value.ownBlock] at hk
  subst hk
  rcases hat with h1 | h1
  · exact hnk _ h1
  · exact fun h2 => by have := hup _ h2; omega
theorem nodes_err {s : Nat} {G : Int} {fv wv : Value} {er at_ : Int} (w : World) (h : StD s G fv wv er at_ w) (he : er ≠ 0) (ka : Option Addr) (kn kc : Nat) (ov : Value) (hk : kn ≤ 1000000) (hov : ∃ a n c, ov = .slice a n c) :
    Calls Tryd.prog 24 #[.pointer (some ⟨s, 0, none⟩), .slice ka kn kc, ov] w fun r w' => r = .returned (.slice none 0 0) ∧ w' = w := by
  obtain ⟨c1, c2, c3, c4⟩ := stD_cells h
  obtain ⟨oa, on, oc, rfl⟩ := hov
  have hne : (er == 0) = false := by simpa using he
  clear h he
  go_enter Tryd.func24, Tryd.ntmps24
  go_wp2_with fail
  go_loopw [7, 8] (fun u i wr => u = .slice none 0 0 ∧ i = .int .i64 0 ∧ wr = w) (fun _ _ _ => 0)
  case atStart => exact ⟨rfl, rfl, rfl⟩
  case round =>
    obtain ⟨rfl, rfl, rfl⟩ := hrel
    by_cases h0 : 0 < kn
    · have d : decide ((0 : Int) < (kn : Int)) = true := decide_eq_true (by omega)
      go_wp2_with fail
      go_ret
      exact ⟨rfl, rfl⟩
    · have : kn = 0 := by omega
      subst this
      go_wp2_with fail
      go_ret
      exact ⟨rfl, rfl⟩
theorem resL_drop {gl : List ByteArray} {ks : List Nd} {j : Nat} {x : Nd} {lo : List ByteArray} {fs : List Fp} (h : ks[j]? = some x) : resL gl (ks.drop j) lo fs = (resN gl x lo fs).bind fun q => (resL gl (ks.drop (j + 1)) lo q.2).bind fun q2 => .ok (q.1 :: q2.1, q2.2) := by
  obtain ⟨hl, he⟩ := List.getElem?_eq_some_iff.1 h
  rw [List.drop_eq_getElem_cons hl, he, resL]
theorem WentD.first {s : Nat} {G : Int} {fv wv : Value} {at_ : Int} {gl : List ByteArray} {fs : List Fp} {ok : Nat → Prop} {w : World} (h1 : StD s G fv wv 0 at_ w) (h2 : DSt s fv wv gl fs ok w) (h3 : fs.length ≤ 32) : WentD s G fv fv wv at_ gl fs ok ok w w :=
  ⟨h1, h2, Keep.refl _ _, fun g h => .inl h, fun b h => h, fun b h => .inl h, h3⟩
theorem WentD.on {s : Nat} {G : Int} {fv fv' wv : Value} {at_ : Int} {gl : List ByteArray} {fs' : List Fp} {ok ok' : Nat → Prop} {w a c : World} (h : WentD s G fv fv' wv at_ gl fs' ok ok' w a) (k : Below a.heap.size a c) : WentD s G fv fv' wv at_ gl fs' ok ok' w c :=
  ⟨blk_on h.st k, ⟨fnsS_keep h.ds.fn (fun b hb => ⟨hb, k.block b (h.ds.lt b hb)⟩) (fun g hg => by
      obtain ⟨cur, hc⟩ := fnsS_lt h.ds.fn hg
      obtain ⟨cs, _, _, h6⟩ := h.ds.fn
      exact ⟨k.block g (blk_lt hc), h6 g hg⟩), txR_on h.ds.wh k, fun b hb => Nat.lt_of_lt_of_le (h.ds.lt b hb) k.size, h.ds.ns⟩, h.keep.trans (T := FD s fv) (Keep.of k) (fun _ _ h => h), h.row, h.up, h.only, h.few⟩
theorem fd_trans {s : Nat} {fv fv1 : Value} {w a c : World} (h : Keep (FD s fv) w a) (k : Keep (FD s fv1) a c) (hr : ∀ g, fv1.ownBlock = some g → fv.ownBlock = some g ∨ w.heap.size ≤ g) : Keep (FD s fv) w c :=
  h.trans k (fun i hi e => by
    rcases e with e | e
    · exact .inl e
    · rcases hr i e with h1 | h1
      · exact .inr h1
      · omega)
theorem WentD.trans {s : Nat} {G : Int} {fv fv1 fv2 wv : Value} {at_ : Int} {gl : List ByteArray} {fs1 fs2 : List Fp} {ok ok1 ok2 : Nat → Prop} {w a c : World} (h : WentD s G fv fv1 wv at_ gl fs1 ok ok1 w a) (h2 : WentD s G fv1 fv2 wv at_ gl fs2 ok1 ok2 a c) : WentD s G fv fv2 wv at_ gl fs2 ok ok2 w c := by
  have z1 := h.keep.size
  refine ⟨h2.st, h2.ds, fd_trans h.keep h2.keep h.row, fun g hg => ?_, fun b hb => h2.up b (h.up b hb), fun b hb => ?_, h2.few⟩
  · rcases h2.row g hg with h3 | h3
    · exact h.row g h3
    · exact .inr (by omega)
  · rcases h2.only b hb with h3 | h3
    · exact h.only b h3
    · exact .inr (by omega)
theorem WentD.bad {s n m : Nat} {G : Int} {fv fv1 wv : Value} {at_ : Int} {gl : List ByteArray} {fs1 : List Fp} {ok ok1 : Nat → Prop} {p e : Int} {w a c : World} (h : WentD s G fv fv1 wv at_ gl fs1 ok ok1 w a) (h2 : BadD s G fv1 wv m p e a c) (hn : n ≤ m) : BadD s G fv wv n p e w c := by
  have z1 := h.keep.size
  obtain ⟨fv2, L, cs, h3, h4, h5, h6, h7⟩ := h2.left
  refine ⟨h2.er, fd_trans h.keep h2.keep h.row, fv2, L, cs, h3, by omega, h5, h6, fun g hg => ?_⟩
  rcases h7 g hg with h8 | h8
  · exact h.row g h8
  · exact .inr (by omega)
theorem BadD.on {s n : Nat} {G : Int} {fv wv : Value} {p e : Int} {w a c : World} (h : BadD s G fv wv n p e w a) (k : Below a.heap.size a c) : BadD s G fv wv n p e w c := by
  obtain ⟨fv', L, cs, h1, h2, h3, h4, h5⟩ := h.left
  exact ⟨h.er, h.keep.trans (T := FD s fv) (Keep.of k) (fun _ _ h => h), fv', L, cs, blk_on h1 k, h2, h3, row_keep h4 (fun g hg => by
    obtain ⟨cur, hc⟩ := row_lt h4 hg
    exact k.block g (blk_lt hc)), h5⟩
/-- a row of nodes grows beside -/
theorem WentD.beside {s : Nat} {G : Int} {fv fv' wv v : Value} {at_ : Int} {gl : List ByteArray} {fs' : List Fp} {n : Nat} {cs : List Value} {ok ok' : Nat → Prop} {w a c : World} (h : WentD s G fv fv' wv at_ gl fs' ok ok' w a) (hown : a.ownsRow 0 25 7 v n cs) (k : a.grownBy c v.ownBlock) (h1 : ∀ g, v.ownBlock = some g → w.heap.size ≤ g ∧ ¬ ok' g) : WentD s G fv fv' wv at_ gl fs' ok ok' w c := by
  have hty : ∀ g, v.ownBlock = some g → ∃ cur, Blk g 25 cur a := fun g hg => row_lt hown hg
  have K : Keep (fun b => v.ownBlock = some b) a c := Keep.grown k (fun b e => e)
  have hz := K.size
  refine ⟨blk_keep h.st K (fun e => ?_), ⟨fnsS_keep h.ds.fn (fun b hb => ⟨hb, K.block b (h.ds.lt b hb) (fun e => (h1 b e).2 hb)⟩) (fun g hg => ?_), txR_keep h.ds.wh (fun g hg => ?_), fun b hb => Nat.lt_of_lt_of_le (h.ds.lt b hb) hz, h.ds.ns⟩, h.keep.trans K (fun i hi e => by have := (h1 i e).1; omega), h.row, h.up, h.only, h.few⟩
  · obtain ⟨cur, hc⟩ := hty s e
    exact blkD_not hc (by decide) _ h.st
  · obtain ⟨cur, hc⟩ := fnsS_lt h.ds.fn hg
    obtain ⟨cs', _, _, h6⟩ := h.ds.fn
    refine ⟨K.block g (blk_lt hc) (fun e => ?_), h6 g hg⟩
    obtain ⟨cur', hc'⟩ := hty g e
    exact blkD_not hc' (by decide) _ hc
  · obtain ⟨cur, hc⟩ := row_lt h.ds.wh hg
    refine K.block g (blk_lt hc) (fun e => ?_)
    obtain ⟨cur', hc'⟩ := hty g e
    exact blkD_not hc' (by decide) _ hc
theorem BadD.beside {s n m : Nat} {G : Int} {fv wv v : Value} {p e : Int} {cs : List Value} {w a c : World} (h : BadD s G fv wv n p e w a) (hown : a.ownsRow 0 25 7 v m cs) (k : a.grownBy c v.ownBlock) (h1 : ∀ g, v.ownBlock = some g → w.heap.size ≤ g) : BadD s G fv wv n p e w c := by
  have hty : ∀ g, v.ownBlock = some g → ∃ cur, Blk g 25 cur a := fun g hg => row_lt hown hg
  have K : Keep (fun b => v.ownBlock = some b) a c := Keep.grown k (fun b e => e)
  obtain ⟨fv', L, cs', g1, g2, g3, g4, g5⟩ := h.left
  refine ⟨h.er, h.keep.trans K (fun i hi e => by have := h1 i e; omega), fv', L, cs', blk_keep g1 K (fun e => ?_), g2, g3, row_keep g4 (fun g hg => ?_), g5⟩
  · obtain ⟨cur, hc⟩ := hty s e
    exact blkD_not hc (by decide) _ g1
  · obtain ⟨cur, hc⟩ := row_lt g4 hg
    refine K.block g (blk_lt hc) (fun e => ?_)
    obtain ⟨cur', hc'⟩ := hty g e
    exact blkD_not hc' (by decide) _ hc

set_option maxRecDepth 100000 in
set_option maxHeartbeats 4000000 in
theorem nodesD_of (ks : List Nd) (ih : ∀ x ∈ ks, NodeD x) : NodesD ks := by
  intro s G fv wv at_ gl lo ov fs ok kv B w hS hD hV hlo hgl hN hB hBs hfB hokB hsm hc h32
  obtain ⟨ka, kc, rfl, _⟩ := kidsIn_cases hN.out
  obtain ⟨oa, oc, rfl⟩ := row_shape hV.out
  have hlen := countL_len ks
  have HIH := hid ih
  have HSM := hid hsm
  have hsl := blk_lt hS.out
  have W0 := hid (WentD.first hS.out hD.out h32)
  clear ih hsm
  go_enter Tryd.func24, Tryd.ntmps24
  go_wp2_with fail
  go_loopw [7, 8] (fun u i wr => ∃ (j : Nat), j ≤ ks.length ∧ (∃ ua un uc, u = .slice ua un uc) ∧ i = .int .i64 j ∧
    ((∃ (ks' : List Nd) (fs' : List Fp) (fv' : Value) (ok' : Nat → Prop), Hid (ks'.length = j ∧ fs.length ≤ fs'.length) ∧ Hid (resL gl ks lo fs = (resL gl (ks.drop j) lo fs').bind fun q => .ok (ks' ++ q.1, q.2)) ∧ Hid (OutS ok' wr u ks') ∧ Hid (WentD s G fv fv' wv at_ gl fs' ok ok' w wr) ∧ Hid (∀ g, u.ownBlock = some g → w.heap.size ≤ g)) ∨
     (∃ p e, Hid (resL gl ks lo fs = .bad p e) ∧ Hid (BadD s G fv wv fs.length p e w wr)))) (fun _ i _ => ks.length - (intOf i).toNat)
  case atStart => exact ⟨0, by omega, ⟨_, _, _, rfl⟩, rfl, .inl ⟨[], fs, fv, ok, hid ⟨rfl, Nat.le_refl _⟩, hid (by
    rw [List.drop_zero]
    cases resL gl ks lo fs with
    | ok q => rfl
    | bad p e => rfl), hid (outS_nil _ _), W0, hid (fun g h => by simp [Value.ownBlock] at h)⟩⟩
  case round =>
    obtain ⟨j, hj, ⟨ua, un, uc, rfl⟩, rfl, hAB⟩ := hrel
    rcases hAB with ⟨ks', fs', fv', ok', hL, hE, hO, hW, hG⟩ | ⟨p, e, hE, hBad⟩
    · obtain ⟨c1, c2, c3, c4⟩ := stD_cells hW.out.st
      have hzk := hW.out.keep.size
      by_cases hjl : j < ks.length
      · obtain ⟨x, hx⟩ : ∃ e, ks[j]? = some e := ⟨ks[j], List.getElem?_eq_getElem hjl⟩
        have hKB : Below B w wr := hW.out.keep.below hB (fun b e => by
          rcases e with e | e
          · omega
          · exact hfB.out b e)
        obtain ⟨b, off, a1, c1', a2, c2', rfl, hb, hNA, hNI⟩ := kid_node (kidsIn_on hKB hN.out) hx
        obtain ⟨n0, n1, n2, n3, n4, n5, n6⟩ := hNA
        have hbr : b < wr.heap.size := by omega
        have hmem := List.mem_of_getElem? hx
        have hcx : countN x ≤ 1000000 := Nat.le_trans (count_mem hmem) hc
        have HED := hid (show resL gl ks lo fs = ((resN gl x lo fs').bind fun q => (resL gl (ks.drop (j + 1)) lo q.2).bind fun q2 => .ok (q.1 :: q2.1, q2.2)).bind fun q => .ok (ks' ++ q.1, q.2) by rw [hE.out, resL_drop hx])
        obtain ⟨va, vc, ev⟩ := outS_shape hO.out
        injection ev with ev1 ev2 ev3
        subst ev1 ev2 ev3
        have hfB' := hid (show ∀ g, fv'.ownBlock = some g → B ≤ g from fun g hg => by
          rcases hW.out.row g hg with h | h
          · exact hfB.out g h
          · omega)
        have IC := hid (HIH.out x hmem s G fv' wv at_ gl lo (.slice oa lo.length oc) fs' ok' (.slice a1 x.names.length c1') (.slice a2 x.kids.length c2') B wr (hid hW.out.st) (hid hW.out.ds) (hid (txR_fd hV.out hS.out hD.out.fn hW.out.keep)) hlo hgl (hid hNI) (by omega) hBs hfB' (hid (fun b hb => hW.out.up b (hokB.out b hb))) (HSM.out x hmem) hcx hW.out.few)
        unfold ndV at IC
        obtain ⟨cs, hown, hrow, hnk⟩ := hO.out
        have HOW := hid hown
        have HRW := hid hrow
        have HNK := hid hnk
        have hkl := hL.out.1
        have hkb : ks'.length ≤ 1000000 := by omega
        have HKL := hid hkl
        clear hNI hx hE hown hrow hnk hkl
        go_wp2_with fail
        refine IC.out.mono ?_
        intro r2 w2 h2
        cases hR : resN gl x lo fs' with
        | bad p e =>
          rw [hR] at h2
          obtain ⟨k', o', n', z', b1, m1, d1, b2, m2, d2, q', rfl, hB2⟩ := h2
          have HB2 := hid hB2
          have HE2 := hid (show resL gl ks lo fs = .bad p e by rw [HED.out, hR]; rfl)
          have HO2 := hid (row_keep HOW.out (fun g hg => by
            obtain ⟨cur, hc'⟩ := row_lt HOW.out hg
            exact hB2.keep.block g (blk_lt hc') (fd_not hW.out.st hW.out.ds.fn hc' (by decide) (by decide))))
          clear hB2 hR
          go_wp2_with (first | (at_builtin; refine row_app elNd (by decide) (by decide) rfl _ _ rfl ks'.length cs [.int .i64 k', .int .i64 o', .int .i64 n', .string z', .slice b1 m1 d1, .slice b2 m2 d2, .int .i64 q'] rfl (by intro u hu; simp at hu; rcases hu with rfl | rfl | rfl | rfl | rfl | rfl | rfl <;> rfl) (.slice ua ks'.length uc) (by rfl) HO2.out w2.heap.size (by rfl) rfl hkb ?_; intro g cp w3 hown3 hgrow hat; have BB := hid ((hW.out.bad HB2.out hL.out.2).beside HO2.out hgrow (fun g hg => hG.out g hg)); clear hown3 hgrow hat) | fail)
          exact ⟨⟨j + 1, by omega, ⟨_, _, _, rfl⟩, by simp, .inr ⟨p, e, HE2, BB⟩⟩, by simp [intOf]; omega⟩
        | ok q =>
          obtain ⟨t', fs2⟩ := q
          rw [hR] at h2
          obtain ⟨nv2, kv2, fv2, ok2, rfl, hS2, W2⟩ := h2
          obtain ⟨i1, j1, i2, j2, rfl, rfl⟩ := ndS_shape hS2
          unfold ndV
          have HS2 := hid hS2
          have HW2 := hid W2
          have hpre := resN_pre x hR
          have HE2 := hid (show resL gl ks lo fs = (resL gl (ks.drop (j + 1)) lo fs2).bind fun q => .ok ((ks' ++ [t']) ++ q.1, q.2) by
            rw [HED.out, hR]
            simp only [Rz.bind_ok]
            cases resL gl (ks.drop (j + 1)) lo fs2 with
            | bad p e => rfl
            | ok q => simp only [Rz.bind_ok, List.append_assoc, List.singleton_append])
          have HO2 := hid (row_keep HOW.out (fun g hg => by
            obtain ⟨cur, hc'⟩ := row_lt HOW.out hg
            exact W2.keep.block g (blk_lt hc') (fd_not hW.out.st hW.out.ds.fn hc' (by decide) (by decide))))
          have HLN := hid (show fs'.length ≤ fs2.length by
            obtain ⟨r, hr⟩ := hpre
            simp only at hr
            rw [hr]; simp)
          clear hS2 W2 hR hpre
          go_wp2_with (first | (at_builtin; refine row_app elNd (by decide) (by decide) rfl _ _ rfl ks'.length cs (ndl t' (.slice i1 t'.names.length j1) (.slice i2 t'.kids.length j2)) rfl (ndl_one t' _ _ _ _ _ _) (.slice ua ks'.length uc) (by rfl) HO2.out w2.heap.size (by rfl) rfl hkb ?_; intro g cp w3 hown3 hgrow hat; have H3 := hid hown3; have G3 := hid hgrow; have T3 := hid hat; clear hown3 hgrow hat) | fail)
          have W3 := hW.out.trans HW2.out
          have hz2 := HW2.out.keep.size
          have hgu : ∀ g', (Value.slice ua ks'.length uc).ownBlock = some g' → ¬ ok2 g' := fun g' hg' hb => by
            rcases HW2.out.only g' hb with h | h
            · exact HNK.out g' hg' h
            · obtain ⟨cur, hc'⟩ := row_lt HOW.out hg'
              have := blk_lt hc'
              omega
          have O3 := outS_moreD (ok := ok2) (rowS_keep (fun b hb => ⟨HW2.out.up b hb, HW2.out.keep.block b (hW.out.ds.lt b hb) (fun e => by
            rcases e with e | e
            · exact hW.out.ds.ns (e ▸ hb)
            · obtain ⟨_, _, _, h6⟩ := hW.out.ds.fn
              exact h6 b e hb)⟩) HRW.out) hgu HW2.out.ds.lt HS2.out H3.out G3.out T3.out
          refine ⟨⟨j + 1, by omega, ⟨_, _, _, rfl⟩, by simp, .inl ⟨ks' ++ [t'], fs2, fv2, ok2, hid ⟨by rw [List.length_append, HKL.out]; rfl, Nat.le_trans hL.out.2 HLN.out⟩, HE2, hid O3, hid (W3.beside HO2.out G3.out (fun g' hg' => ⟨hG.out g' hg', hgu g' hg'⟩)), hid (fun g' hg' => ?_)⟩⟩, by simp [intOf]; omega⟩
          simp [Value.ownBlock] at hg'
          subst hg'
          rcases T3.out with h | h
          · exact hG.out g h
          · omega
      · have hje : j = ks.length := by omega
        subst hje
        have HE2 := hid (show resL gl ks lo fs = .ok (ks', fs') by rw [hE.out, List.drop_length, resL, Rz.bind_ok]; simp)
        go_wp2_with fail
        go_ret
        rw [HE2.out]
        have KK := outS_kids hO.out
        refine ⟨_, fv', fun b => ok' b ∨ (Value.slice ua un uc).ownBlock = some b, rfl, KK, hW.out.st, ⟨fnsS_keep hW.out.ds.fn (fun b hb => ⟨.inl hb, rfl⟩) (fun g hg => ⟨rfl, fun hb => ?_⟩), hW.out.ds.wh, fun b hb => ?_, fun hb => ?_⟩, hW.out.keep, hW.out.row, fun b hb => .inl (hW.out.up b hb), fun b hb => ?_, hW.out.few⟩
        · rcases hb with hb | hb
          · obtain ⟨_, _, _, h6⟩ := hW.out.ds.fn
            exact h6 g hg hb
          · obtain ⟨cs, hown, _⟩ := hO.out
            obtain ⟨cur, hc1⟩ := row_lt hown hb
            obtain ⟨cur2, hc2⟩ := fnsS_lt hW.out.ds.fn hg
            exact blkD_not hc1 (by decide) _ hc2
        · rcases hb with hb | hb
          · exact hW.out.ds.lt b hb
          · exact outS_lt hO.out hb
        · rcases hb with hb | hb
          · exact hW.out.ds.ns hb
          · obtain ⟨cs, hown, _⟩ := hO.out
            obtain ⟨cur, hc1⟩ := row_lt hown hb
            exact blkD_not hc1 (by decide) _ hW.out.st
        · rcases hb with hb | hb
          · exact hW.out.only b hb
          · exact .inr (hG.out b hb)
    · obtain ⟨fv', L, cs, g1, _⟩ := hBad.out.left
      obtain ⟨c1, c2, c3, c4⟩ := stD_cells g1
      have hne : (e == 0) = false := by simpa using hBad.out.er
      clear g1
      by_cases hjl : j < ks.length
      · go_wp2_with fail
        go_ret
        rw [hE.out]
        exact ⟨_, _, _, rfl, hBad.out⟩
      · have hje : j = ks.length := by omega
        subst hje
        go_wp2_with fail
        go_ret
        rw [hE.out]
        exact ⟨_, _, _, rfl, hBad.out⟩

end Go.Proofs.YtenpldenhgpneaaDoor
