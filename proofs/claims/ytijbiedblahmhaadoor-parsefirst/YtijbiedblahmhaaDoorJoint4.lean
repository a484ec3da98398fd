/- The parser in memory. What the parser takes. -/
import Derived.Test.YtijbiedblahmhaaDoorJoint3
import Derived.Test.YtijbiedblahmhaaDoorPsMay
import Derived.Deep.RegionHeld3
namespace Go.Proofs.YtijbiedblahmhaaDoor
open Go.RowKit

/-- a block of a call's own -/
def Blk (g : Nat) (T : TypeId) (cs : Array Value) (w : World) : Prop := w.heap[g]? = some (.cells cs T (0, 0))
theorem blk_lt {g : Nat} {T : TypeId} {cs : Array Value} {w : World} (h : Blk g T cs w) : g < w.heap.size := by
  rcases Nat.lt_or_ge g w.heap.size with h' | h'
  · exact h'
  · simp [Blk, Array.getElem?_eq_none h'] at h
theorem blk_new (w : World) (T : TypeId) (cs : Array Value) : Blk w.heap.size T cs (w.alloc (.cells cs T)) := heap_alloc_new w _
theorem blk_cell {g : Nat} {T : TypeId} {cs : Array Value} {w : World} (h : Blk g T cs w) (i : Nat) : w.cell? ⟨g, i, none⟩ = cs[i]? := Lib.cell_of_heap h i
theorem blk_set {g : Nat} {T : TypeId} {cs : Array Value} {w : World} (h : Blk g T cs w) (i : Nat) (v : Value) : Blk g T (cs.setIfInBounds i v) (w.setCell ⟨g, i, none⟩ v) := by
  unfold Blk at *
  simp [World.setCell, Array.getElem?_modify, h]
theorem blk_free {g : Nat} {T : TypeId} {cs : Array Value} {w : World} (h : Blk g T cs w) (i : Nat) : w.frozen? ⟨g, i, none⟩ = false := by
  unfold Blk at h
  simp [World.frozen?, h]

/-- all blocks but one are as they were -/
structure But (P : Nat) (w w' : World) : Prop where
  os : w'.os = w.os
  tape : w'.tape = w.tape
  output : w'.output = w.output
  size : w.heap.size ≤ w'.heap.size
  block : ∀ k, k < w.heap.size → k ≠ P → w'.heap[k]? = w.heap[k]?
theorem But.refl (P : Nat) (w : World) : But P w w := ⟨rfl, rfl, rfl, Nat.le_refl _, fun _ _ _ => rfl⟩
theorem But.trans {P : Nat} {a b c : World} (h : But P a b) (k : But P b c) : But P a c :=
  ⟨k.os.trans h.os, k.tape.trans h.tape, k.output.trans h.output, Nat.le_trans h.size k.size, fun i hi hp => (k.block i (Nat.lt_of_lt_of_le hi h.size) hp).trans (h.block i hi hp)⟩
theorem But.of {P : Nat} {a b : World} (h : Below a.heap.size a b) : But P a b := ⟨h.os, h.tape, h.output, h.size, fun k hk _ => h.block k hk⟩
theorem But.set {P : Nat} (w : World) (i : Nat) (v : Value) : But P w (w.setCell ⟨P, i, none⟩ v) :=
  ⟨rfl, rfl, rfl, by simp [World.setCell], fun _ _ hp => Below.heap_setCell _ _ _ _ hp⟩
theorem But.below {P : Nat} {w w' : World} (h : But P w w') {B : Nat} (hB : B ≤ P) (hw : B ≤ w.heap.size) : Below B w w' :=
  ⟨h.os, h.tape, h.output, h.size, fun k hk => h.block k (by omega) (by omega)⟩
theorem But.cell {P : Nat} {w w' : World} (h : But P w w') {g i : Nat} (hg : g < w.heap.size) (hp : g ≠ P) : w'.cell? ⟨g, i, none⟩ = w.cell? ⟨g, i, none⟩ := World.cell?_of_block (w := w) (h.block g hg hp)
theorem blk_but {P g : Nat} {T : TypeId} {cs : Array Value} {a c : World} (h : Blk g T cs a) (k : But P a c) (hp : g ≠ P) : Blk g T cs c := (k.block g (blk_lt h) hp).trans h
theorem blk_on {g : Nat} {T : TypeId} {cs : Array Value} {a c : World} (h : Blk g T cs a) (k : Below a.heap.size a c) : Blk g T cs c := (k.block g (blk_lt h)).trans h

/-- tokens in a row of cells -/
def TokAt (R : Nat) (L : List Tok) (w : World) : Prop := ∀ (i : Nat) (h : i < L.length),
  w.cell? ⟨R, i * 4, none⟩ = some (.int .i64 L[i].kind) ∧ w.cell? ⟨R, i * 4 + 1, none⟩ = some (.string L[i].text) ∧ w.cell? ⟨R, i * 4 + 2, none⟩ = some (.int .i64 L[i].num) ∧ w.cell? ⟨R, i * 4 + 3, none⟩ = some (.int .i64 L[i].pl)
/-- right tokens of which the last alone is an end -/
structure TokOk (L : List Tok) : Prop where
  right : GT L
  few : L.length ≤ 601
  last : ∃ f e, L = f ++ [e] ∧ e.kind = 6 ∧ ∀ t ∈ f, t.kind ≠ 6
/-- the parser at P, with the tokens l left -/
structure PSt (P : Nat) (L : List Tok) (w : World) (l : List Tok) : Prop where
  ok : TokOk L
  suf : l <:+ L
  ne : l ≠ []
  sg : Ok P w
  mem : ∃ R cap, R < P ∧ L.length ≤ cap ∧ TokAt R L w ∧ Blk P 39 #[.slice (some ⟨R, 0, none⟩) L.length cap, .int .i64 ((L.length - l.length : Nat) : Int)] w
theorem tokAt_but {P R : Nat} {L : List Tok} {a c : World} (h : TokAt R L a) (k : But P a c) (hp : R < P) (hs : P < a.heap.size) : TokAt R L c := by
  intro i hi
  obtain ⟨h1, h2, h3, h4⟩ := h i hi
  have hr : R < a.heap.size := by omega
  have hne : R ≠ P := by omega
  exact ⟨(k.cell hr hne).trans h1, (k.cell hr hne).trans h2, (k.cell hr hne).trans h3, (k.cell hr hne).trans h4⟩
theorem PSt.lt {P : Nat} {L l : List Tok} {w : World} (h : PSt P L w l) : P < w.heap.size := by
  obtain ⟨_, _, _, _, _, hb⟩ := h.mem
  exact blk_lt hb
theorem PSt.on {P : Nat} {L l : List Tok} {a c : World} (h : PSt P L a l) (k : Below a.heap.size a c) : PSt P L c l := by
  have hlt := h.lt
  obtain ⟨R, cap, h1, h2, h3, h4⟩ := h.mem
  exact ⟨h.ok, h.suf, h.ne, ok_on h.sg (k.mono (Nat.le_of_lt hlt)), R, cap, h1, h2, tokAt_but h3 (But.of k) h1 hlt, blk_on h4 k⟩
/-- behind a token that is no end there is one more -/
theorem TokOk.more {L l : List Tok} (h : TokOk L) (hs : l <:+ L) (hk : (cur l).kind ≠ 6) (hne : l ≠ []) : l.tail ≠ [] := by
  obtain ⟨f, e, rfl, h6, _⟩ := h.last
  obtain ⟨pre, hp⟩ := hs
  cases l with
  | nil => exact absurd rfl hne
  | cons t r =>
    intro hr
    have hr' : r = [] := hr
    subst hr'
    have := (List.append_inj' hp (by simp)).2
    injection this with h1 _
    subst h1
    exact hk h6
theorem isH_consT (t : Tok) (l : List Tok) (x : List UInt8) : isH (t :: l) x = isT t x := rfl
theorem isT_kind {t : Tok} {x : List UInt8} (h : isT t x = true) : t.kind ≠ 6 := by
  intro e
  unfold isT at h
  rw [e] at h; cases h
/-- one token on -/
theorem PSt.step {P : Nat} {L : List Tok} {t : Tok} {r : List Tok} {w w' : World} (h : PSt P L w (t :: r)) (hk : t.kind ≠ 6) {v : Value} (hv : v = .int .i64 ((L.length - r.length : Nat) : Int)) (hw : w' = w.setCell ⟨P, 1, none⟩ v) : PSt P L w' r ∧ But P w w' := by
  subst hw
  have hlt := h.lt
  have hne := h.ok.more h.suf (l := t :: r) hk (by simp)
  obtain ⟨R, cap, h1, h2, h3, h4⟩ := h.mem
  refine ⟨⟨h.ok, (List.suffix_cons t r).trans h.suf, hne, ok_on h.sg ((But.set w 1 v).below (Nat.le_refl _) (Nat.le_of_lt hlt)), R, cap, h1, h2, tokAt_but h3 (But.set w 1 v) h1 hlt, ?_⟩, But.set w 1 v⟩
  have := blk_set h4 1 v
  subst hv
  simpa using this
/-- the token that comes -/
theorem PSt.here {P : Nat} {L l : List Tok} {w : World} (h : PSt P L w l) : ∃ R cap i, R < w.heap.size ∧ P < w.heap.size ∧ i < L.length ∧ L.length ≤ cap ∧ L.length ≤ 601 ∧ (i : Int) = ((L.length - l.length : Nat) : Int) ∧
    w.cell? ⟨P, 0, none⟩ = some (.slice (some ⟨R, 0, none⟩) L.length cap) ∧ w.cell? ⟨P, 1, none⟩ = some (.int .i64 (i : Int)) ∧ w.frozen? ⟨P, 1, none⟩ = false ∧
    w.cell? ⟨R, i * 4, none⟩ = some (.int .i64 (cur l).kind) ∧ w.cell? ⟨R, i * 4 + 1, none⟩ = some (.string (cur l).text) ∧ w.cell? ⟨R, i * 4 + 2, none⟩ = some (.int .i64 (cur l).num) ∧ w.cell? ⟨R, i * 4 + 3, none⟩ = some (.int .i64 (cur l).pl) := by
  have hlt := h.lt
  obtain ⟨R, cap, h1, h2, h3, h4⟩ := h.mem
  obtain ⟨pre, hp⟩ := h.suf
  cases l with
  | nil => exact absurd rfl h.ne
  | cons t r =>
    have hl : L.length - (t :: r).length = pre.length := by rw [← hp]; simp
    have hi : pre.length < L.length := by rw [← hp]; simp
    have ht : L[pre.length] = t := by simp [← hp]
    refine ⟨R, cap, pre.length, by omega, hlt, hi, h2, h.ok.few, by rw [hl], ?_, ?_, blk_free h4 1, ?_⟩
    · rw [blk_cell h4]; rfl
    · rw [blk_cell h4, hl]; rfl
    · have := h3 pre.length hi
      rw [ht] at this
      exact this

/-- a struct of seven, of four cells as an answer -/
theorem ret_nd {fn : Func} {t : Tmp} (h : fn.results = #[.cell t 26]) {tmps : Array Value} {g : Nat} {w : World} {a b c d e f p : Value} (ht : tmps.getD t undef = .pointer (some ⟨g, 0, none⟩)) (hb : Blk g 26 #[a, b, c, d, e, f, p] w) :
    (results fn tmps).run Tryd.prog w = .ok (.agg #[a, b, c, d, e, f, p]) w := by
  rw [Array.getD_eq_getD_getElem?] at ht
  have h0 := blk_cell hb 0
  have h1 := blk_cell hb 1
  have h2 := blk_cell hb 2
  have h3 := blk_cell hb 3
  have h4 := blk_cell hb 4
  have h5 := blk_cell hb 5
  have h6 := blk_cell hb 6
  simp at h0 h1 h2 h3 h4 h5 h6
  simp [results, h, ht, go_sem, asAddr, h0, h1, h2, h3, h4, h5, h6]
theorem ret_tok {fn : Func} {t : Tmp} (h : fn.results = #[.cell t 41]) {tmps : Array Value} {g : Nat} {w : World} {a b c d : Value} (ht : tmps.getD t undef = .pointer (some ⟨g, 0, none⟩)) (hb : Blk g 41 #[a, b, c, d] w) :
    (results fn tmps).run Tryd.prog w = .ok (.agg #[a, b, c, d]) w := by
  rw [Array.getD_eq_getD_getElem?] at ht
  have h0 := blk_cell hb 0
  have h1 := blk_cell hb 1
  have h2 := blk_cell hb 2
  have h3 := blk_cell hb 3
  simp at h0 h1 h2 h3
  simp [results, h, ht, go_sem, asAddr, h0, h1, h2, h3]

set_option maxHeartbeats 1600000 in
theorem here_calls (P : Nat) (L l : List Tok) (w : World) (H : Hid (PSt P L w l)) :
    Calls Tryd.prog 11 #[.pointer (some ⟨P, 0, none⟩)] w fun e w' => e = .returned (cur l).val ∧ Below w.heap.size w w' := by
  obtain ⟨R, cap, i, hR, hP, hi, hcap, h601, hil, d0, d1, _, c0, c1, c2, c3⟩ := H.out.here
  have hil' := hid hil
  clear hil H
  generalize cur l = t at *
  have hi2 : (i : Int) < (L.length : Int) := by omega
  go_enter Tryd.func11, Tryd.ntmps11
  go_wp2_with fail
  go_region
  go_wp2_with fail
  exact bodyPost_ret (ret_tok rfl rfl (blk_new w _ _)) rfl ⟨rfl, ((Below.refl _ _).alloc (Nat.le_refl _) _).drew⟩

/-- the parser, its token's place in memory -/
theorem PSt.drew {P : Nat} {L l : List Tok} {w : World} (h : PSt P L w l) : PSt P L w.drew l := h.on (Below.refl _ _).drew

set_option maxHeartbeats 1600000 in
theorem is_calls (P : Nat) (L l : List Tok) (x : ByteArray) (w : World) (H : Hid (PSt P L w l)) :
    Calls Tryd.prog 17 #[.pointer (some ⟨P, 0, none⟩), .string x] w fun e w' => e = .returned (.bool (isH l x.data.toList)) ∧ Below w.heap.size w w' := by
  rw [show isH l x.data.toList = (((cur l).kind == 2 || (cur l).kind == 5) && (cur l).text.toList == x.toList) by unfold isH isT; rw [Lib.toList_data, Lib.toList_data]]
  have HC := here_calls P L l w H
  clear H
  generalize cur l = t at *
  unfold Tok.val at HC
  have HC' := hid HC
  clear HC
  cases h2 : (t.kind == 2) with
  | true =>
    go_enter Tryd.func17, Tryd.ntmps17
    go_wp2_with fail
    refine HC'.out.mono ?_
    rintro e w1 ⟨rfl, b1⟩
    have B1 := hid b1
    clear b1 HC'
    go_wp2_with fail
    go_ret
    exact ⟨rfl, (B1.out.alloc B1.out.size _)⟩
  | false =>
    cases h5 : (t.kind == 5) with
    | true =>
      go_enter Tryd.func17, Tryd.ntmps17
      go_wp2_with fail
      refine HC'.out.mono ?_
      rintro e w1 ⟨rfl, b1⟩
      have B1 := hid b1
      clear b1 HC'
      go_wp2_with fail
      go_ret
      exact ⟨rfl, (B1.out.alloc B1.out.size _)⟩
    | false =>
      go_enter Tryd.func17, Tryd.ntmps17
      go_wp2_with fail
      refine HC'.out.mono ?_
      rintro e w1 ⟨rfl, b1⟩
      have B1 := hid b1
      clear b1 HC'
      go_wp2_with fail
      go_ret
      exact ⟨rfl, (B1.out.alloc B1.out.size _)⟩

set_option maxHeartbeats 1600000 in
theorem take_no (P : Nat) (L l : List Tok) (x : ByteArray) (w : World) (H : Hid (PSt P L w l)) (hh : isH l x.data.toList = false) :
    Calls Tryd.prog 29 #[.pointer (some ⟨P, 0, none⟩), .string x] w fun e w' => e = .returned (.bool false) ∧ Below w.heap.size w w' := by
  go_enter Tryd.func29, Tryd.ntmps29
  go_wp2_with fail
  refine (is_calls P L l x _ H).mono ?_
  rintro e w1 ⟨he, b1⟩
  rw [hh] at he
  subst he
  have B1 := hid b1
  clear b1 H hh
  go_wp2_with fail
  go_ret
  exact ⟨rfl, B1.out⟩
set_option maxHeartbeats 1600000 in
theorem take_yes (P : Nat) (L : List Tok) (t : Tok) (r : List Tok) (x : ByteArray) (w : World) (H : Hid (PSt P L w (t :: r))) (hh : isT t x.data.toList = true) :
    Calls Tryd.prog 29 #[.pointer (some ⟨P, 0, none⟩), .string x] w fun e w' => e = .returned (.bool true) ∧ PSt P L w' r ∧ But P w w' := by
  go_enter Tryd.func29, Tryd.ntmps29
  go_wp2_with fail
  refine (is_calls P L (t :: r) x _ H).mono ?_
  rintro e w1 ⟨he, b1⟩
  rw [isH_consT, hh] at he
  subst he
  have B1 := hid b1
  have S1 := hid (H.out.on b1)
  obtain ⟨R, cap, i, hR, hP, hi, hcap, h601, hil, d0, d1, dz, c0, c1, c2, c3⟩ := S1.out.here
  have HST := hid (show ∀ v, v = .int .i64 ((i : Int) + 1) → ∀ w', w' = w1.setCell ⟨P, 1, none⟩ v → PSt P L w' r ∧ But P w1 w' from fun v hv w' hw => S1.out.step (isT_kind hh) (by
    rw [hv]; congr 1
    have : (t :: r).length ≤ L.length := S1.out.suf.length_le
    simp only [List.length_cons] at this hil ⊢
    omega) hw)
  clear hil hh b1 H S1
  go_wp2_with fail
  go_ret
  have Z := HST.out _ rfl _ rfl
  exact ⟨rfl, Z.1, (But.of B1.out).trans Z.2⟩

end Go.Proofs.YtijbiedblahmhaaDoor

namespace Go.Proofs.YtijbiedblahmhaaDoor
open Go.RowKit

/-- how it is given up -/
def gaveUp : Ending := .panicked [{ v := .iface 27 (.int .i64 12), recovered := false }]
set_option maxHeartbeats 1600000 in
theorem giveup_calls (P : Nat) (w : World) :
    Calls Tryd.prog 12 #[.pointer (some ⟨P, 0, none⟩)] w fun e w' => e = gaveUp ∧ w' = w := by
  go_enter Tryd.func12, Tryd.ntmps12
  go_wp2_with fail
  exact ⟨rfl, rfl, rfl⟩

set_option maxHeartbeats 1600000 in
theorem must_no (P : Nat) (L l : List Tok) (x : ByteArray) (w : World) (H : Hid (PSt P L w l)) (hh : isH l x.data.toList = false) :
    Calls Tryd.prog 34 #[.pointer (some ⟨P, 0, none⟩), .string x] w fun e w' => e = gaveUp ∧ Below w.heap.size w w' := by
  go_enter Tryd.func34, Tryd.ntmps34
  go_wp2_with fail
  refine (take_no P L l x _ H hh).mono ?_
  rintro e w1 ⟨rfl, b1⟩
  have B1 := hid b1
  clear b1 H hh
  go_wp2_with fail
  refine (giveup_calls P _).mono ?_
  rintro e w2 ⟨rfl, rfl⟩
  unfold gaveUp
  go_wp2_with fail
  exact ⟨rfl, rfl, B1.out⟩
set_option maxHeartbeats 1600000 in
theorem must_yes (P : Nat) (L : List Tok) (t : Tok) (r : List Tok) (x : ByteArray) (w : World) (H : Hid (PSt P L w (t :: r))) (hh : isT t x.data.toList = true) :
    Calls Tryd.prog 34 #[.pointer (some ⟨P, 0, none⟩), .string x] w fun e w' => e = .returned (.tuple #[]) ∧ PSt P L w' r ∧ But P w w' := by
  go_enter Tryd.func34, Tryd.ntmps34
  go_wp2_with fail
  refine (take_yes P L t r x _ H hh).mono ?_
  rintro e w1 ⟨rfl, b1, b2⟩
  have B1 := hid b1
  have B2 := hid b2
  clear b1 b2 H hh
  go_wp2_with fail
  go_end0
  exact ⟨rfl, B1.out, B2.out⟩

/-- the first of some words that comes -/
def firstW (ws : List ByteArray) (l : List Tok) : Option ByteArray := ws.find? fun x => isH l x.data.toList
set_option maxHeartbeats 3200000 in
theorem takeone_no (P : Nat) (L l : List Tok) (ws : List ByteArray) (B : Nat) (v : Value) (w : World) (hB : B ≤ w.heap.size) (H : Hid (PSt P L w l)) (hV : Hid (StrsIn B v ws w)) (hws : ws.length ≤ 1000) (hh : firstW ws l = none) :
    Calls Tryd.prog 63 #[.pointer (some ⟨P, 0, none⟩), v] w fun e w' => e = .returned (.string ⟨#[]⟩) ∧ Below w.heap.size w w' := by
  have hn : ∀ x ∈ ws, isH l x.data.toList = false := by
    intro x hx
    have := List.find?_eq_none.1 hh x hx
    simpa using this
  obtain ⟨ao, cap, rfl, hss⟩ := strsIn_cases hV.out
  have SS := hid hss
  have HN := hid hn
  clear hV hss hn hh
  go_enter Tryd.func63, Tryd.ntmps63
  go_wp2_with fail
  go_loopw [9] (fun i wr => ∃ j : Nat, j ≤ ws.length ∧ i = .int .i64 j ∧ Below w.heap.size w wr) (fun i _ => ws.length - (intOf i).toNat)
  case atStart => exact ⟨0, Nat.zero_le _, rfl, Below.refl _ _⟩
  case round =>
    obtain ⟨j, hj, rfl, hb⟩ := hrel
    by_cases hjl : j < ws.length
    · obtain ⟨d, dof, rfl, hdB, hsa⟩ := SS.out.resolve_left (fun h => by rw [h] at hjl; cases hjl)
      have hnm := cell_keep (hb.mono hB) hdB (hsa j hjl)
      have hno := HN.out ws[j] (List.getElem_mem hjl)
      generalize ws[j] = x at *
      have S1 := hid (H.out.on hb)
      have BB := hid hb
      have HO := hid hno
      clear hsa hb SS H HN hno
      go_wp2_with fail
      refine (take_no P L l x _ S1 HO.out).mono ?_
      rintro e w1 ⟨rfl, b1⟩
      have B1 := hid (below_on BB.out b1)
      clear b1 BB S1 HO hnm
      go_wp2_with fail
      go_roundw
      case rel => exact ⟨j + 1, by omega, by go_num, B1.out⟩
      case measure => simp [intOf]; omega
    · have BB := hid hb
      clear hb SS H HN
      go_wp2_with fail
      go_ret
      exact ⟨rfl, BB.out⟩
set_option maxHeartbeats 3200000 in
theorem takeone_yes (P : Nat) (L : List Tok) (t : Tok) (r : List Tok) (ws : List ByteArray) (x : ByteArray) (B : Nat) (v : Value) (w : World) (hB : B ≤ w.heap.size) (H : Hid (PSt P L w (t :: r))) (hV : Hid (StrsIn B v ws w)) (hws : ws.length ≤ 1000) (hh : firstW ws (t :: r) = some x) :
    Calls Tryd.prog 63 #[.pointer (some ⟨P, 0, none⟩), v] w fun e w' => e = .returned (.string x) ∧ PSt P L w' r ∧ But P w w' := by
  obtain ⟨k, hk, hkx, hkn⟩ : ∃ (k : Nat) (hk : k < ws.length), ws[k] = x ∧ ∀ (i : Nat) (hi : i < k), isT t (ws[i]'(by omega)).data.toList = false := by
    unfold firstW at hh
    obtain ⟨h1, us, bs, e, h2⟩ := List.find?_eq_some_iff_append.1 hh
    subst e
    refine ⟨us.length, by simp, by simp, fun i hi => ?_⟩
    have := h2 us[i] (List.getElem_mem hi)
    simp only [List.getElem_append_left hi]
    simpa [isH_consT] using this
  have hx : isT t x.data.toList = true := by
    have := List.find?_some hh
    simpa [isH_consT] using this
  obtain ⟨ao, cap, rfl, hss⟩ := strsIn_cases hV.out
  obtain ⟨d, dof, rfl, hdB, hsa⟩ := hss.resolve_left (fun h => by rw [h] at hk; cases hk)
  have SA := hid hsa
  have HX := hid hx
  have HKX := hid hkx
  have HKN := hid hkn
  clear hV hss hh hsa hx hkx hkn
  go_enter Tryd.func63, Tryd.ntmps63
  go_wp2_with fail
  go_loopw [9] (fun i wr => ∃ j : Nat, j ≤ k ∧ i = .int .i64 j ∧ Below w.heap.size w wr) (fun i _ => ws.length - (intOf i).toNat)
  case atStart => exact ⟨0, Nat.zero_le _, rfl, Below.refl _ _⟩
  case round =>
    obtain ⟨j, hj, rfl, hb⟩ := hrel
    have hjl : j < ws.length := by omega
    have hnm := cell_keep (hb.mono hB) hdB (SA.out j hjl)
    have S1 := hid (H.out.on hb)
    have BB := hid hb
    rcases Nat.lt_or_ge j k with hjk | hjk
    · have HO := hid (show isH (t :: r) ws[j].data.toList = false from HKN.out j hjk)
      generalize ws[j] = y at *
      clear hb SA H HKN HX HKX
      go_wp2_with fail
      refine (take_no P L (t :: r) y _ S1 HO.out).mono ?_
      rintro e w1 ⟨rfl, b1⟩
      have B1 := hid (below_on BB.out b1)
      clear b1 BB S1 HO hnm
      go_wp2_with fail
      go_roundw
      case rel => exact ⟨j + 1, by omega, by go_num, B1.out⟩
      case measure => simp [intOf]; omega
    · have hjk' : j = k := by omega
      subst hjk'
      rw [HKX.out] at hnm
      clear hb SA H HKN HKX
      go_wp2_with fail
      refine (take_yes P L t r x _ S1 HX.out).mono ?_
      rintro e w1 ⟨rfl, b1, b2⟩
      have B1 := hid b1
      have B2 := hid ((But.of BB.out).trans b2)
      clear b1 b2 BB S1 HX hnm
      go_wp2_with fail
      go_ret
      exact ⟨rfl, B1.out, B2.out⟩

/-- whole numbers in a row of cells -/
def IntsAt (g : Nat) (ks : List Int) (w : World) : Prop := ∀ (i : Nat) (h : i < ks.length), w.cell? ⟨g, i, none⟩ = some (.int .i64 ks[i])
set_option maxHeartbeats 3200000 in
theorem text_no (P : Nat) (L l : List Tok) (ks : List Int) (g : Nat) (w : World) (hg : g < w.heap.size) (H : Hid (PSt P L w l)) (hV : Hid (IntsAt g ks w)) (hks : ks.length ≤ 1000) (hh : (cur l).kind ∉ ks) :
    Calls Tryd.prog 66 #[.pointer (some ⟨P, 0, none⟩), .slice (some ⟨g, 0, none⟩) ks.length ks.length] w fun e w' => e = gaveUp ∧ Below w.heap.size w w' := by
  have HC := hid (here_calls P L l w H)
  have HN := hid hh
  clear H hh
  generalize cur l = t at *
  unfold Tok.val at HC
  go_enter Tryd.func66, Tryd.ntmps66
  go_wp2_with fail
  refine HC.out.mono ?_
  rintro e w1 ⟨rfl, b1⟩
  have hs1 := b1.size
  have V1 := hid (show IntsAt g ks w1 from fun i hi => cell_keep b1 hg (hV.out i hi))
  have B1 := hid b1
  clear b1 HC hV
  go_wp2_with fail
  go_loopw [12] (fun i wr => ∃ j : Nat, j ≤ ks.length ∧ i = .int .i64 j ∧ wr = w1.alloc (.cells #[.int .i64 t.kind, .string t.text, .int .i64 t.num, .int .i64 t.pl] 41)) (fun i _ => ks.length - (intOf i).toNat)
  case atStart => exact ⟨0, Nat.zero_le _, rfl, rfl⟩
  case round =>
    obtain ⟨j, hj, rfl, rfl⟩ := hrel
    by_cases hjl : j < ks.length
    · have hc := V1.out j hjl
      have hne : (t.kind == ks[j]) = false := by
        rw [beq_eq_false_iff_ne]; intro e; exact HN.out (by rw [e]; exact List.getElem_mem hjl)
      generalize ks[j] = kj at *
      have hg1 : g < w1.heap.size := by omega
      clear V1 HN
      go_wp2_with fail
      go_roundw
      case rel => exact ⟨j + 1, by omega, by go_num, trivial⟩
      case measure => simp [intOf]; omega
    · clear V1 HN
      go_wp2_with fail
      refine (giveup_calls P _).mono ?_
      rintro e w2 ⟨rfl, rfl⟩
      unfold gaveUp
      go_wp2_with fail
      exact ⟨rfl, rfl, B1.out.alloc B1.out.size _⟩
set_option maxHeartbeats 3200000 in
theorem text_yes (P : Nat) (L : List Tok) (t : Tok) (r : List Tok) (ks : List Int) (g : Nat) (w : World) (hg : g < w.heap.size) (H : Hid (PSt P L w (t :: r))) (hV : Hid (IntsAt g ks w)) (hks : ks.length ≤ 1000) (h6 : t.kind ≠ 6) (hh : t.kind ∈ ks) :
    Calls Tryd.prog 66 #[.pointer (some ⟨P, 0, none⟩), .slice (some ⟨g, 0, none⟩) ks.length ks.length] w fun e w' => e = .returned (.string t.text) ∧ PSt P L w' r ∧ But P w w' := by
  have HC := hid (here_calls P L (t :: r) w H)
  have HN := hid hh
  have H6 := hid h6
  clear hh h6
  unfold Tok.val cur at HC
  simp only [List.headD_cons] at HC
  go_enter Tryd.func66, Tryd.ntmps66
  go_wp2_with fail
  refine HC.out.mono ?_
  rintro e w1 ⟨rfl, b1⟩
  have hs1 := b1.size
  have V1 := hid (show IntsAt g ks w1 from fun i hi => cell_keep b1 hg (hV.out i hi))
  have B1 := hid b1
  have S1 := hid (H.out.on b1)
  clear b1 HC hV H
  go_wp2_with fail
  go_loopw [12] (fun i wr => ∃ j : Nat, j ≤ ks.length ∧ i = .int .i64 j ∧ wr = w1.alloc (.cells #[.int .i64 t.kind, .string t.text, .int .i64 t.num, .int .i64 t.pl] 41) ∧ Hid (∃ (k : Nat) (hk : k < ks.length), j ≤ k ∧ ks[k] = t.kind)) (fun i _ => ks.length - (intOf i).toNat)
  case atStart =>
    obtain ⟨k, hk, e⟩ := List.getElem_of_mem HN.out
    exact ⟨0, Nat.zero_le _, rfl, rfl, k, hk, Nat.zero_le _, e⟩
  case round =>
    obtain ⟨j, hj, rfl, rfl, hk⟩ := hrel
    have hjl : j < ks.length := by obtain ⟨k, hk, h1, h2⟩ := hk.out; omega
    have hc := V1.out j hjl
    have hg1 : g < w1.heap.size := by omega
    by_cases hne : t.kind = ks[j]
    · rw [← hne] at hc
      obtain ⟨R, cap, i, hR, hP, hi, hcap, h601, hil, d0, d1, dz, c0, c1, c2, c3⟩ := S1.out.here
      have HST := hid (show ∀ v, v = .int .i64 ((i : Int) + 1) → ∀ w', w' = w1.setCell ⟨P, 1, none⟩ v → PSt P L w' r ∧ But P w1 w' from fun v hv w' hw => S1.out.step H6.out (by
        rw [hv]; congr 1
        have : (t :: r).length ≤ L.length := S1.out.suf.length_le
        simp only [List.length_cons] at this hil ⊢
        omega) hw)
      have hP1 : P < w1.heap.size := S1.out.lt
      have hne' : (t.kind == t.kind) = true := by simp
      clear hil V1 HN hk H6 S1 hne
      go_wp2_with fail
      go_ret
      have Z := HST.out _ rfl _ rfl
      have A2 := (Below.refl _ (w1.setCell ⟨P, 1, none⟩ (.int .i64 ((i : Int) + 1)))).alloc (Nat.le_refl _) (.cells #[.int .i64 t.kind, .string t.text, .int .i64 t.num, .int .i64 t.pl] 41)
      exact ⟨rfl, Z.1.on A2, ((But.of B1.out).trans Z.2).trans (But.of A2)⟩
    · have hne' : (t.kind == ks[j]) = false := beq_eq_false_iff_ne.2 hne
      have HK2 := hid (show ∃ (k : Nat) (hk : k < ks.length), j + 1 ≤ k ∧ ks[k] = t.kind by
        obtain ⟨k, hk, h1, h2⟩ := hk.out
        refine ⟨k, hk, ?_, h2⟩
        rcases Nat.lt_or_ge j k with h | h
        · exact h
        · have : j = k := by omega
          subst this
          exact absurd h2.symm hne)
      clear hne V1 HN hk H6 S1
      generalize ks[j] = kj at *
      go_wp2_with fail
      go_roundw
      case rel => exact ⟨j + 1, by omega, by go_num, trivial, HK2.out⟩
      case measure => simp [intOf]; omega

theorem ints_new (w : World) (ks : List Int) (T : TypeId) : IntsAt w.heap.size ks (w.alloc (.cells (ks.map fun k => Value.int .i64 k).toArray T)) := by
  intro i hi
  rw [blk_cell (blk_new w T _)]
  simp [hi]
theorem isW_kind {key : Bool} {l : List Tok} : isW key l = decide ((cur l).kind ∈ (if key then [1, 2] else [1] : List Int)) := by
  unfold isW
  rw [Bool.eq_iff_iff]
  cases key <;> simp
set_option maxHeartbeats 1600000 in
theorem name_no (P : Nat) (L l : List Tok) (w : World) (H : Hid (PSt P L w l)) (hh : isW false l = false) :
    Calls Tryd.prog 56 #[.pointer (some ⟨P, 0, none⟩)] w fun e w' => e = gaveUp ∧ Below w.heap.size w w' := by
  have A := hid ((Below.refl _ w).alloc (Nat.le_refl _) (.cells #[.int .i64 1] 3))
  have S := hid (H.out.on A.out)
  have V := hid (ints_new w [1] 3)
  rw [isW_kind, decide_eq_false_iff_not] at hh
  have HH := hid hh
  clear H hh
  go_enter Tryd.func56, Tryd.ntmps56
  go_wp2_with fail
  refine (text_no P L l [1] _ _ (by simp) S V (by simp) HH.out).mono ?_
  rintro e w2 ⟨rfl, b⟩
  have B := hid (below_in A.out (by simp) b)
  clear b A S V HH
  unfold gaveUp
  go_wp2_with fail
  exact ⟨rfl, rfl, B.out⟩
set_option maxHeartbeats 1600000 in
theorem name_yes (P : Nat) (L : List Tok) (t : Tok) (r : List Tok) (w : World) (H : Hid (PSt P L w (t :: r))) (hh : t.kind = 1) :
    Calls Tryd.prog 56 #[.pointer (some ⟨P, 0, none⟩)] w fun e w' => e = .returned (.string t.text) ∧ PSt P L w' r ∧ But P w w' := by
  have A := hid ((Below.refl _ w).alloc (Nat.le_refl _) (.cells #[.int .i64 1] 3))
  have S := hid (H.out.on A.out)
  have V := hid (ints_new w [1] 3)
  have HH := hid hh
  clear H hh
  go_enter Tryd.func56, Tryd.ntmps56
  go_wp2_with fail
  refine (text_yes P L t r [1] _ _ (by simp) S V (by simp) (by rw [HH.out]; decide) (by rw [HH.out]; simp)).mono ?_
  rintro e w2 ⟨rfl, b, c⟩
  have B := hid b
  have C := hid ((But.of A.out).trans c)
  clear b c A S V HH
  go_wp2_with fail
  go_ret
  exact ⟨rfl, B.out, C.out⟩
set_option maxHeartbeats 1600000 in
theorem prop_no (P : Nat) (L l : List Tok) (w : World) (H : Hid (PSt P L w l)) (hh : isW true l = false) :
    Calls Tryd.prog 79 #[.pointer (some ⟨P, 0, none⟩)] w fun e w' => e = gaveUp ∧ Below w.heap.size w w' := by
  have A := hid ((Below.refl _ w).alloc (Nat.le_refl _) (.cells #[.int .i64 1, .int .i64 2] 3))
  have S := hid (H.out.on A.out)
  have V := hid (ints_new w [1, 2] 3)
  rw [isW_kind, decide_eq_false_iff_not] at hh
  have HH := hid hh
  clear H hh
  go_enter Tryd.func79, Tryd.ntmps79
  go_wp2_with fail
  refine (text_no P L l [1, 2] _ _ (by simp) S V (by simp) HH.out).mono ?_
  rintro e w2 ⟨rfl, b⟩
  have B := hid (below_in A.out (by simp) b)
  clear b A S V HH
  unfold gaveUp
  go_wp2_with fail
  exact ⟨rfl, rfl, B.out⟩
set_option maxHeartbeats 1600000 in
theorem prop_yes (P : Nat) (L : List Tok) (t : Tok) (r : List Tok) (w : World) (H : Hid (PSt P L w (t :: r))) (hh : t.kind = 1 ∨ t.kind = 2) :
    Calls Tryd.prog 79 #[.pointer (some ⟨P, 0, none⟩)] w fun e w' => e = .returned (.string t.text) ∧ PSt P L w' r ∧ But P w w' := by
  have A := hid ((Below.refl _ w).alloc (Nat.le_refl _) (.cells #[.int .i64 1, .int .i64 2] 3))
  have S := hid (H.out.on A.out)
  have V := hid (ints_new w [1, 2] 3)
  have HH := hid hh
  clear H hh
  go_enter Tryd.func79, Tryd.ntmps79
  go_wp2_with fail
  refine (text_yes P L t r [1, 2] _ _ (by simp) S V (by simp) (by have := HH.out; omega) (by have := HH.out; simp; omega)).mono ?_
  rintro e w2 ⟨rfl, b, c⟩
  have B := hid b
  have C := hid ((But.of A.out).trans c)
  clear b c A S V HH
  go_wp2_with fail
  go_ret
  exact ⟨rfl, B.out, C.out⟩

/-- the token that was taken last -/
theorem PSt.last {P : Nat} {L l pre : List Tok} {u : Tok} {w : World} (h : PSt P L w l) (hp : pre ++ u :: l = L) : ∃ R cap, R < w.heap.size ∧ P < w.heap.size ∧ L.length ≤ cap ∧ L.length ≤ 601 ∧ pre.length + 1 < L.length ∧
    w.cell? ⟨P, 0, none⟩ = some (.slice (some ⟨R, 0, none⟩) L.length cap) ∧ w.cell? ⟨P, 1, none⟩ = some (.int .i64 ((pre.length + 1 : Nat) : Int)) ∧ w.cell? ⟨R, pre.length * 4 + 1, none⟩ = some (.string u.text) := by
  have hlt := h.lt
  obtain ⟨R, cap, h1, h2, h3, h4⟩ := h.mem
  have hl : L.length - l.length = pre.length + 1 := by rw [← hp]; simp; omega
  have hi : pre.length < L.length := by rw [← hp]; simp
  have ht : L[pre.length] = u := by simp [← hp]
  have hne : 0 < l.length := List.length_pos_iff.2 h.ne
  refine ⟨R, cap, by omega, hlt, h2, h.ok.few, by rw [← hp]; simp; omega, ?_, ?_, ?_⟩
  · rw [blk_cell h4]; rfl
  · rw [blk_cell h4, hl]; rfl
  · have := (h3 pre.length hi).2.1
    rw [ht] at this
    exact this
set_option maxHeartbeats 1600000 in
theorem brackets_calls (P : Nat) (L l pre : List Tok) (u : Tok) (w : World) (H : Hid (PSt P L w l)) (hp : pre ++ u :: l = L) :
    Calls Tryd.prog 59 #[.pointer (some ⟨P, 0, none⟩)] w fun e w' => e = .returned (.bool (u.text.data.toList == [41])) ∧ Below w.heap.size w w' := by
  obtain ⟨R, cap, hR, hP, hcap, h601, hi, d0, d1, c1⟩ := H.out.last hp
  have HI := hid (show (u.text.data.toList == [41]) = (u.text.toList == [41]) by rw [Lib.toList_data])
  rw [HI.out]
  clear H hp HI
  generalize pre.length = i at *
  generalize u.text = s at *
  go_enter Tryd.func59, Tryd.ntmps59
  go_wp2_with fail
  go_region
  go_wp2_with fail
  go_ret
  exact ⟨rfl, (Below.refl _ _).drew⟩

end Go.Proofs.YtijbiedblahmhaaDoor
