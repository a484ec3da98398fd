/- The pieces of a right tree stand well beside each other. -/
import Derived.Test.YtlnllpehifkjhaaDoorPsLex
import Derived.Test.YtlnllpehifkjhaaDoorPsRight
namespace Go.Proofs.YtlnllpehifkjhaaDoor
open Go.RowKit

/-- a byte with which an expression may begin, as far as signs ahead of it ask -/
def hdB (c : UInt8) : Bool := c != 61 && c != 47
def Good (l : List Pc) : Prop := Fine l ∧ laid l ≠ [] ∧ HeadIs hdB (laid l)

theorem headIs_app {p : UInt8 → Bool} {a b : List UInt8} (h : HeadIs p a) (hne : a ≠ []) : HeadIs p (a ++ b) := by
  cases a with
  | nil => exact absurd rfl hne
  | cons c r => exact headIs_cons (h c r rfl)
theorem headIs_mono {p q : UInt8 → Bool} {a : List UInt8} (h : HeadIs p a) (hpq : ∀ c, p c = true → q c = true) : HeadIs q a := fun c r e => hpq c (h c r e)
theorem soft_hd {c : UInt8} (h : softB c = true) : hdB c = true := by simp only [softB, Bool.and_eq_true] at h; unfold hdB; rw [Bool.and_eq_true]; exact h.2

theorem fine_app : ∀ {a b : List Pc}, Fine a → Fine b → HeadIs softB (laid b) → Fine (a ++ b)
  | [], b, _, hb, _ => hb
  | .bl :: r, b, ha, hb, hs => fine_app (a := r) ha hb hs
  | .tk t :: r, b, ha, hb, hs => by
    obtain ⟨h1, h2, h3, h4⟩ := ha
    refine ⟨h1, h2, ?_, fine_app h4 hb hs⟩
    show HeadIs (stopB t) (laid (r ++ b))
    rw [laid_append]
    by_cases he : laid r = []
    · rw [he]; exact headIs_mono hs fun c hc => soft_stop hc
    · exact headIs_app h3 he
theorem good_app {a b : List Pc} (ha : Good a) (hb : Fine b) (hs : HeadIs softB (laid b)) : Good (a ++ b) := by
  obtain ⟨h1, h2, h3⟩ := ha
  refine ⟨fine_app h1 hb hs, ?_, ?_⟩
  · rw [laid_append]; intro e; exact h2 (List.append_eq_nil_iff.1 e).1
  · rw [laid_append]; exact headIs_app h3 h2

theorem fine_sg {x : List UInt8} (hx : x ∈ sgnL) {b : List Pc} (hb : Fine b) (hh : HeadIs hdB (laid b)) : Fine (sg x :: b) := by
  refine ⟨by simp [sgT, rightTok, hx], by simp [sgT], ?_, hb⟩
  exact headIs_mono hh fun c hc => by unfold stopB; rw [if_neg (by simp [sgT]), if_pos (by simp [sgT])]; exact hc
theorem fine_kw {x : List UInt8} (hx : keyB x = true) {b : List Pc} (hb : Fine b) (hh : HeadIs softB (laid b)) : Fine (kw x :: b) :=
  ⟨by simp [kwT, rightTok, hx], by simp [kwT], headIs_mono hh fun _ hc => soft_stop hc, hb⟩
theorem fine_nm {s : ByteArray} (hs : properB s = true) {b : List Pc} (hb : Fine b) (hh : HeadIs softB (laid b)) : Fine (nm s :: b) :=
  ⟨by unfold properB at hs; simpa [nmT, rightTok] using hs, by simp [nmT], headIs_mono hh fun _ hc => soft_stop hc, hb⟩
theorem fine_pp {s : ByteArray} (hs : propB s = true) {b : List Pc} (hb : Fine b) (hh : HeadIs softB (laid b)) : Fine (pp s :: b) := by
  refine ⟨?_, ?_, headIs_mono hh fun _ hc => soft_stop hc, hb⟩
  · unfold propB at hs
    unfold ppT rightTok
    cases keyB s.data.toList <;> simp_all
  · unfold ppT
    cases keyB s.data.toList <;> simp
theorem fine_bl {b : List Pc} (hb : Fine b) : Fine (.bl :: b) := hb
theorem fine_nil : Fine [] := trivial
theorem head_sg {p : UInt8 → Bool} {c : UInt8} {x : List UInt8} {b : List Pc} (h : p c = true) : HeadIs p (laid (sg (c :: x) :: b)) := by
  rw [laid_cons, sg_text]; exact headIs_cons h
theorem head_bl {p : UInt8 → Bool} {b : List Pc} (h : p 32 = true) : HeadIs p (laid (.bl :: b)) := by
  rw [laid_cons]; exact headIs_cons h
theorem head_kw {p : UInt8 → Bool} {c : UInt8} {x : List UInt8} {b : List Pc} (h : p c = true) : HeadIs p (laid (kw (c :: x) :: b)) := by
  rw [laid_cons, kw_text]; exact headIs_cons h
theorem letter_hd {c : UInt8} (h : letterN c.toNat = true) : hdB c = true := by
  have h1 : c ≠ 61 := by intro e; subst e; cases h
  have h2 : c ≠ 47 := by intro e; subst e; cases h
  simp [hdB, h1, h2]
theorem head_word {s : List UInt8} {R : List UInt8} (h : nameB s = true) : HeadIs hdB (s ++ R) := by
  obtain ⟨b, r, e, hl, _⟩ := name_shape h
  rw [e]; exact headIs_cons (letter_hd hl)
theorem proper_prop {s : ByteArray} (h : properB s = true) : propB s = true := by unfold properB at h; rw [Bool.and_eq_true] at h; exact h.1
theorem head_nm {s : ByteArray} {b : List Pc} (h : propB s = true) : HeadIs hdB (laid (nm s :: b)) := by rw [laid_cons, nm_text]; exact head_word h
theorem head_pp {s : ByteArray} {b : List Pc} (h : propB s = true) : HeadIs hdB (laid (pp s :: b)) := by rw [laid_cons, pp_text]; exact head_word h
theorem ne_sg {c : UInt8} {x : List UInt8} {b : List Pc} : laid (sg (c :: x) :: b) ≠ [] := by rw [laid_cons, sg_text]; simp
theorem ne_kw {c : UInt8} {x : List UInt8} {b : List Pc} : laid (kw (c :: x) :: b) ≠ [] := by rw [laid_cons, kw_text]; simp
theorem ne_nm {s : ByteArray} {b : List Pc} (h : propB s = true) : laid (nm s :: b) ≠ [] := by
  obtain ⟨c, r, e, _, _⟩ := name_shape h
  rw [laid_cons, nm_text, e]; simp

/-- a sign that stands behind an expression -/
theorem fine_close {c : UInt8} {b : List Pc} (hc : [c] ∈ sgnL) (hb : Fine b) (hh : HeadIs hdB (laid b)) : Fine (sg [c] :: b) := fine_sg hc hb hh

theorem good_tight {x : Px} (h : Good x.e) (r : Int) : Good (tightC x r) := by
  unfold tightC
  split
  · exact h
  · have h2 := good_app h (fine_sg (x := [41]) (by decide) fine_nil (headIs_nil _)) (head_sg (by decide))
    exact ⟨fine_sg (by decide) h2.1 h2.2.2, ne_sg, head_sg (by decide)⟩
theorem fine_commas {R : List Pc} (hR : Fine R) (hs : HeadIs softB (laid R)) : ∀ {l : List Px}, (∀ x ∈ l, Good x.e) → Fine (commasC l ++ R) ∧ HeadIs softB (laid (commasC l ++ R))
  | [], _ => ⟨hR, hs⟩
  | x :: l, h => by
    have ih := fine_commas hR hs (l := l) (fun y hy => h y (by simp [hy]))
    have hx := good_app (h x (by simp)) ih.1 ih.2
    have e : commasC (x :: l) ++ R = sg [44] :: .bl :: (x.e ++ (commasC l ++ R)) := by simp [commasC]
    rw [e]
    exact ⟨fine_sg (by decide) (fine_bl hx.1) (head_bl (by decide)), head_sg (by decide)⟩
theorem good_args {l : List Px} (h : ∀ x ∈ l, Good x.e) {R : List Pc} (hR : Fine R) (hs : HeadIs hdB (laid R)) : Fine (argsC l ++ R) ∧ HeadIs softB (laid (argsC l ++ R)) := by
  have hc : Fine (sg [41] :: R) := fine_sg (by decide) hR hs
  have e : argsC l ++ R = sg [40] :: (listC l ++ (sg [41] :: R)) := by simp [argsC]
  rw [e]
  refine ⟨?_, head_sg (by decide)⟩
  cases l with
  | nil => exact fine_sg (by decide) hc (head_sg (by decide))
  | cons x l =>
    have ih := fine_commas hc (head_sg (by decide)) (l := l) (fun y hy => h y (by simp [hy]))
    have hx := good_app (h x (by simp)) ih.1 ih.2
    have e : listC (x :: l) ++ (sg [41] :: R) = x.e ++ (commasC l ++ (sg [41] :: R)) := by simp [listC]
    rw [e]
    exact fine_sg (by decide) hx.1 hx.2.2
theorem fine_fields {R : List Pc} (hR : Fine R) (hs : HeadIs softB (laid R)) : ∀ {ns : List ByteArray} {l : List Px}, (∀ s ∈ ns, propB s = true) → (∀ x ∈ l, Good x.e) → Fine (fieldsC ns l ++ R) ∧ HeadIs softB (laid (fieldsC ns l ++ R))
  | [], l, _, _ => by cases l <;> exact ⟨hR, hs⟩
  | s :: ns, [], _, _ => ⟨hR, hs⟩
  | s :: ns, x :: l, hn, h => by
    have ih := fine_fields hR hs (ns := ns) (l := l) (fun y hy => hn y (by simp [hy])) (fun y hy => h y (by simp [hy]))
    have hx := good_app (h x (by simp)) ih.1 ih.2
    have e : fieldsC (s :: ns) (x :: l) ++ R = sg [44] :: .bl :: pp s :: sg [58] :: .bl :: (x.e ++ (fieldsC ns l ++ R)) := by simp [fieldsC, fieldC]
    rw [e]
    exact ⟨fine_sg (by decide) (fine_bl (fine_pp (hn s (by simp)) (fine_sg (by decide) (fine_bl hx.1) (head_bl (by decide))) (head_sg (by decide)))) (head_bl (by decide)), head_sg (by decide)⟩
theorem good_obj {ns : List ByteArray} {l : List Px} (hn : ∀ s ∈ ns, propB s = true) (h : ∀ x ∈ l, Good x.e) : Good (objC ns l) := by
  have hc : Fine [sg [125]] := fine_sg (by decide) fine_nil (headIs_nil _)
  have h0 : Good [sg [123], sg [125]] := ⟨fine_sg (by decide) hc (head_sg (by decide)), ne_sg, head_sg (by decide)⟩
  cases ns with
  | nil => exact h0
  | cons s ns =>
    cases l with
    | nil => exact h0
    | cons x l =>
      have ih := fine_fields hc (head_sg (by decide)) (ns := ns) (l := l) (fun y hy => hn y (by simp [hy])) (fun y hy => h y (by simp [hy]))
      have hx := good_app (h x (by simp)) ih.1 ih.2
      have e : objC (s :: ns) (x :: l) = sg [123] :: pp s :: sg [58] :: .bl :: (x.e ++ (fieldsC ns l ++ [sg [125]])) := by simp [objC, fieldC]
      rw [e]
      exact ⟨fine_sg (by decide) (fine_pp (hn s (by simp)) (fine_sg (by decide) (fine_bl hx.1) (head_bl (by decide))) (head_sg (by decide))) (head_pp (hn s (by simp))), ne_sg, head_sg (by decide)⟩
theorem fine_names {R : List Pc} (hR : Fine R) (hs : HeadIs softB (laid R)) : ∀ {ns : List ByteArray}, (∀ s ∈ ns, properB s = true) → Fine (namesC ns ++ R) ∧ HeadIs softB (laid (namesC ns ++ R))
  | [], _ => ⟨hR, hs⟩
  | s :: ns, h => by
    have ih := fine_names hR hs (ns := ns) (fun y hy => h y (by simp [hy]))
    have e : namesC (s :: ns) ++ R = sg [44] :: .bl :: nm s :: (namesC ns ++ R) := by simp [namesC]
    rw [e]
    exact ⟨fine_sg (by decide) (fine_bl (fine_nm (h s (by simp)) ih.1 ih.2)) (head_bl (by decide)), head_sg (by decide)⟩
theorem fine_blanks {R : List Pc} (hR : Fine R) (hs : HeadIs softB (laid R)) : ∀ {l : List Px}, (∀ x ∈ l, Good x.s) → Fine (blanksC l ++ R) ∧ HeadIs softB (laid (blanksC l ++ R))
  | [], _ => ⟨hR, hs⟩
  | x :: l, h => by
    have ih := fine_blanks hR hs (l := l) (fun y hy => h y (by simp [hy]))
    have hx := good_app (h x (by simp)) ih.1 ih.2
    have e : blanksC (x :: l) ++ R = .bl :: (x.s ++ (blanksC l ++ R)) := by simp [blanksC]
    rw [e]
    exact ⟨fine_bl hx.1, head_bl (by decide)⟩
theorem good_block {l : List Px} (h : ∀ x ∈ l, Good x.s) {R : List Pc} (hR : Fine R) (hs : HeadIs hdB (laid R)) : Fine (blockC l ++ R) ∧ HeadIs softB (laid (blockC l ++ R)) := by
  have hc : Fine (sg [125] :: R) := fine_sg (by decide) hR hs
  cases l with
  | nil => exact ⟨fine_sg (by decide) hc (head_sg (by decide)), head_sg (by decide)⟩
  | cons x l =>
    have ih := fine_blanks (R := .bl :: sg [125] :: R) (fine_bl hc) (head_bl (by decide)) h
    have e : blockC (x :: l) ++ R = sg [123] :: (blanksC (x :: l) ++ (.bl :: sg [125] :: R)) := by simp [blockC]
    rw [e]
    exact ⟨fine_sg (by decide) ih.1 (headIs_mono ih.2 fun c hc => soft_hd hc), head_sg (by decide)⟩
theorem good_get {x : Px} (h : Good x.e) {s : ByteArray} (hs : propB s = true) {R : List Pc} (hR : Fine R) (hr : HeadIs softB (laid R)) : Good (getC x s ++ R) := by
  have e : getC x s ++ R = tightC x 8 ++ (sg [46] :: pp s :: R) := by simp [getC]
  rw [e]
  exact good_app (good_tight h 8) (fine_sg (by decide) (fine_pp hs hR hr) (head_pp hs)) (head_sg (by decide))
theorem good_index {x y : Px} (h : Good x.e) (hy : Good y.e) {R : List Pc} (hR : Fine R) (hr : HeadIs hdB (laid R)) : Good (indexC x y ++ R) := by
  have e : indexC x y ++ R = tightC x 8 ++ (sg [91] :: (y.e ++ (sg [93] :: R))) := by simp [indexC]
  have hc : Fine (sg [93] :: R) := fine_sg (by decide) hR hr
  have h2 := good_app hy hc (head_sg (by decide))
  rw [e]
  exact good_app (good_tight h 8) (fine_sg (by decide) h2.1 h2.2.2) (head_sg (by decide))
theorem fine_becomes {x : Px} (h : Good x.e) {R : List Pc} (hR : Fine R) (hr : HeadIs softB (laid R)) : Fine (becomesC x ++ R) ∧ HeadIs softB (laid (becomesC x ++ R)) := by
  have h2 := good_app h hR hr
  exact ⟨fine_bl (fine_sg (by decide) (fine_bl h2.1) (head_bl (by decide))), head_bl (by decide)⟩
theorem good_between {x y : Px} (h : Good x.e) (hy : Good y.e) {r : Int} {g : List UInt8} (hg : g ∈ sgnL) : Good (betweenC r g x y) := by
  have h2 := good_tight hy (r + 1)
  exact good_app (good_tight h r) (fine_bl (fine_sg hg (fine_bl h2.1) (head_bl (by decide)))) (head_bl (by decide))
theorem sign_in {o : Int} (h : 1 ≤ o ∧ o ≤ 11) : signT o ∈ sgnL := by
  obtain rfl | rfl | rfl | rfl | rfl | rfl | rfl | rfl | rfl | rfl | rfl : o = 1 ∨ o = 2 ∨ o = 3 ∨ o = 4 ∨ o = 5 ∨ o = 6 ∨ o = 7 ∨ o = 8 ∨ o = 9 ∨ o = 10 ∨ o = 11 := by omega
  all_goals decide
theorem built_in {o : Int} (h : 1 ≤ o ∧ o ≤ 7) : keyB (builtT o).1 = true ∧ ∃ c r, (builtT o).1 = c :: r ∧ hdB c = true := by
  obtain rfl | rfl | rfl | rfl | rfl | rfl | rfl : o = 1 ∨ o = 2 ∨ o = 3 ∨ o = 4 ∨ o = 5 ∨ o = 6 ∨ o = 7 := by omega
  all_goals exact ⟨by decide, _, _, rfl, by decide⟩

/-- an expression, a statement, a block of which this is known -/
def GoodP (a : Nat) (t : Nd) : Prop :=
  (a = 1 → Good (pcN t).e) ∧ (a = 2 → Good (pcN t).s) ∧ (a = 3 → ∀ R, Fine R → HeadIs hdB (laid R) → Fine ((pcN t).b ++ R) ∧ HeadIs softB (laid ((pcN t).b ++ R)))
theorem goodE {t : Nd} (h : Good (pcN t).e) : GoodP 1 t := ⟨fun _ => h, fun h => (by cases h), fun h => (by cases h)⟩
theorem goodS {t : Nd} (h : Good (pcN t).s) : GoodP 2 t := ⟨fun h => (by cases h), fun _ => h, fun h => (by cases h)⟩
theorem good_kids {ks : List Nd} (h : ∀ x ∈ ks, GoodP 1 x) : ∀ x ∈ ks.map pcN, Good x.e := by
  intro x hx
  obtain ⟨y, hy, rfl⟩ := List.mem_map.1 hx
  exact (h y hy).1 rfl
theorem good_kids2 {ks : List Nd} (h : ∀ x ∈ ks, GoodP 2 x) : ∀ x ∈ ks.map pcN, Good x.s := by
  intro x hx
  obtain ⟨y, hy, rfl⟩ := List.mem_map.1 hx
  exact (h y hy).2.1 rfl
theorem soft_nil : HeadIs softB (laid []) := headIs_nil _
theorem close_semi : Fine [sg [59]] ∧ HeadIs softB (laid [sg [59]]) := ⟨fine_sg (by decide) fine_nil (headIs_nil _), head_sg (by decide)⟩

theorem good_rt {a : Nat} {t : Nd} (h : Rt a t) : GoodP a t := by
  induction h with
  | null p => exact goodE ⟨fine_kw (by decide) fine_nil soft_nil, ne_kw, head_kw (by decide)⟩
  | bool n p hn =>
    rcases hn with rfl | rfl
    · exact goodE ⟨fine_kw (x := [102, 97, 108, 115, 101]) (by decide) fine_nil soft_nil, ne_kw (c := 102), head_kw (c := 102) (by decide)⟩
    · exact goodE ⟨fine_kw (x := [116, 114, 117, 101]) (by decide) fine_nil soft_nil, ne_kw (c := 116), head_kw (c := 116) (by decide)⟩
  | int n p hn =>
    have hr : rightTok ⟨3, ⟨(digs n).toArray⟩, n, 0⟩ = true := by simp [rightTok, hn]
    have hf : Fine [.tk ⟨3, ⟨(digs n).toArray⟩, n, 0⟩] := ⟨hr, by simp, headIs_nil _, trivial⟩
    have hne := tok_ne hr (by simp)
    have e : (pcN (.mk 3 0 n bz [] [] p)).e = [.tk ⟨3, ⟨(digs n).toArray⟩, n, 0⟩] := by rw [pcN_mk]; rfl
    refine goodE ?_
    rw [e]
    have hl : laid [.tk ⟨3, ⟨(digs n).toArray⟩, n, 0⟩] = digs n := by simp [laid, Pc.text, tokText]
    refine ⟨hf, ?_, ?_⟩
    · rw [hl]; simpa [tokText] using hne
    · rw [hl]
      intro c r e
      have hall : (digs n).all isDig = true := by unfold digs; rw [if_neg (by omega)]; exact dec_all _ _
      have := List.all_eq_true.1 hall c (by rw [e]; simp)
      have h1 : c ≠ 61 := by intro e; subst e; cases this
      have h2 : c ≠ 47 := by intro e; subst e; cases this
      simp [hdB, h1, h2]
  | str s p hs =>
    have hr : rightTok ⟨4, s, 0, 0⟩ = true := by simp [rightTok, hs]
    have e : (pcN (.mk 4 0 0 s [] [] p)).e = [.tk ⟨4, s, 0, 0⟩] := by rw [pcN_mk]; rfl
    have hl : laid [.tk ⟨4, s, 0, 0⟩] = 34 :: (qbody s.data.toList ++ [34]) := by simp [laid, Pc.text, tokText, quoted]
    refine goodE ?_
    rw [e]
    exact ⟨⟨hr, by simp, headIs_nil _, trivial⟩, by rw [hl]; simp, by rw [hl]; exact headIs_cons (by decide)⟩
  | name s p hs => exact goodE ⟨fine_nm hs fine_nil soft_nil, ne_nm (proper_prop hs), head_nm (proper_prop hs)⟩
  | this p => exact goodE ⟨fine_kw (by decide) fine_nil soft_nil, ne_kw, head_kw (by decide)⟩
  | obj ns ks p hl hm hns hk ih =>
    refine goodE ?_
    rw [pcN_mk]
    exact good_obj hns (good_kids ih)
  | fn ns ks p hm hns hc hk ih =>
    refine goodE ?_
    rw [pcN_mk]
    have hb := good_block (good_kids2 ih) fine_nil (headIs_nil _)
    rw [List.append_nil] at hb
    have h2 : Fine (sg [41] :: .bl :: blockC (ks.map pcN)) := fine_sg (by decide) (fine_bl hb.1) (head_bl (by decide))
    show Good (kw [102, 110] :: sg [40] :: (joinC ns ++ (sg [41] :: .bl :: blockC (ks.map pcN))))
    have h3 : Fine (joinC ns ++ (sg [41] :: .bl :: blockC (ks.map pcN))) ∧ HeadIs hdB (laid (joinC ns ++ (sg [41] :: .bl :: blockC (ks.map pcN)))) := by
      cases ns with
      | nil => exact ⟨h2, head_sg (by decide)⟩
      | cons s r =>
        have h4 := fine_names h2 (head_sg (by decide)) (ns := r) (fun y hy => hns y (by simp [hy]))
        exact ⟨fine_nm (hns s (by simp)) h4.1 h4.2, head_nm (proper_prop (hns s (by simp)))⟩
    exact ⟨fine_kw (by decide) (fine_sg (by decide) h3.1 h3.2) (head_sg (by decide)), ne_kw, head_kw (by decide)⟩
  | un o x p ho hx ih =>
    refine goodE ?_
    rw [pcN_mk]
    have h2 := good_tight (ih.1 rfl) 7
    rcases ho with rfl | rfl
    · exact ⟨fine_sg (x := [45]) (by decide) h2.1 h2.2.2, ne_sg (c := 45), head_sg (c := 45) (by decide)⟩
    · exact ⟨fine_sg (x := [33]) (by decide) h2.1 h2.2.2, ne_sg (c := 33), head_sg (c := 33) (by decide)⟩
  | bin o x y p ho hx hy ix iy =>
    refine goodE ?_
    rw [pcN_mk]
    exact good_between (ix.1 rfl) (iy.1 rfl) (sign_in ho)
  | and x y p hx hy ix iy =>
    refine goodE ?_
    rw [pcN_mk]
    exact good_between (ix.1 rfl) (iy.1 rfl) (by decide)
  | or x y p hx hy ix iy =>
    refine goodE ?_
    rw [pcN_mk]
    exact good_between (ix.1 rfl) (iy.1 rfl) (by decide)
  | get s x p hs hx ix =>
    refine goodE ?_
    rw [pcN_mk]
    have := good_get (ix.1 rfl) hs fine_nil soft_nil
    rw [List.append_nil] at this
    exact this
  | index x y p hx hy ix iy =>
    refine goodE ?_
    rw [pcN_mk]
    have := good_index (ix.1 rfl) (iy.1 rfl) fine_nil (headIs_nil _)
    rw [List.append_nil] at this
    exact this
  | call x ks p hc hx hk ix ik =>
    refine goodE ?_
    rw [pcN_mk]
    have := good_args (good_kids ik) fine_nil (headIs_nil _)
    rw [List.append_nil] at this
    exact good_app (good_tight (ix.1 rfl) _) this.1 this.2
  | meth s x ks p hs hc hx hk ix ik =>
    refine goodE ?_
    rw [pcN_mk]
    have := good_args (good_kids ik) fine_nil (headIs_nil _)
    rw [List.append_nil] at this
    exact good_get (ix.1 rfl) hs this.1 this.2
  | built o ks p ho hc hk ik =>
    refine goodE ?_
    rw [pcN_mk]
    obtain ⟨hb, c, r, e, hh⟩ := built_in ho
    have := good_args (good_kids ik) fine_nil (headIs_nil _)
    rw [List.append_nil] at this
    refine ⟨fine_kw hb this.1 this.2, ?_, ?_⟩
    · show laid (kw (builtT o).1 :: _) ≠ []
      rw [e]; exact ne_kw
    · show HeadIs hdB (laid (kw (builtT o).1 :: _))
      rw [e]; exact head_kw hh
  | slet s x p hs hx ix =>
    refine goodS ?_
    rw [pcN_mk]
    have := fine_becomes (ix.1 rfl) close_semi.1 close_semi.2
    exact ⟨fine_kw (x := [108, 101, 116]) (by decide) (fine_bl (fine_nm hs this.1 this.2)) (head_bl (by decide)), ne_kw (c := 108), head_kw (c := 108) (by decide)⟩
  | assign s x p hs hx ix =>
    refine goodS ?_
    rw [pcN_mk]
    have := fine_becomes (ix.1 rfl) close_semi.1 close_semi.2
    exact ⟨fine_nm hs this.1 this.2, ne_nm (proper_prop hs), head_nm (proper_prop hs)⟩
  | set s x y p hs hx hy ix iy =>
    refine goodS ?_
    rw [pcN_mk]
    have := fine_becomes (iy.1 rfl) close_semi.1 close_semi.2
    show Good (getC (pcN x) s ++ becomesC (pcN y) ++ [sg [59]])
    rw [List.append_assoc]
    exact good_get (ix.1 rfl) hs this.1 this.2
  | setix x y z p hx hy hz ix iy iz =>
    refine goodS ?_
    rw [pcN_mk]
    have := fine_becomes (iz.1 rfl) close_semi.1 close_semi.2
    show Good (indexC (pcN x) (pcN y) ++ becomesC (pcN z) ++ [sg [59]])
    rw [List.append_assoc]
    exact good_index (ix.1 rfl) (iy.1 rfl) this.1 (headIs_mono this.2 fun c hc => soft_hd hc)
  | del s x p hs hx ix =>
    refine goodS ?_
    rw [pcN_mk]
    have := good_get (ix.1 rfl) hs close_semi.1 close_semi.2
    exact ⟨fine_kw (x := [100, 101, 108, 101, 116, 101]) (by decide) (fine_bl this.1) (head_bl (by decide)), ne_kw (c := 100), head_kw (c := 100) (by decide)⟩
  | delix x y p hx hy ix iy =>
    refine goodS ?_
    rw [pcN_mk]
    have := good_index (ix.1 rfl) (iy.1 rfl) close_semi.1 (headIs_mono close_semi.2 fun c hc => soft_hd hc)
    exact ⟨fine_kw (x := [100, 101, 108, 101, 116, 101]) (by decide) (fine_bl this.1) (head_bl (by decide)), ne_kw (c := 100), head_kw (c := 100) (by decide)⟩
  | print x p hx ix =>
    refine goodS ?_
    rw [pcN_mk]
    have := good_app (ix.1 rfl) close_semi.1 close_semi.2
    exact ⟨fine_kw (x := [112, 114, 105, 110, 116]) (by decide) (fine_bl this.1) (head_bl (by decide)), ne_kw (c := 112), head_kw (c := 112) (by decide)⟩
  | iff x y z p hx hy hz ix iy iz =>
    refine goodS ?_
    rw [pcN_mk]
    have key : ∀ R, Fine R → HeadIs hdB (laid R) → Good (branchC [105, 102] (pcN x) (pcN y) ++ R) := by
      intro R hR hh
      have hb := iy.2.2 rfl R hR hh
      have h2 := good_app (ix.1 rfl) (b := sg [41] :: .bl :: ((pcN y).b ++ R)) (fine_sg (by decide) (fine_bl hb.1) (head_bl (by decide))) (head_sg (by decide))
      have e : branchC [105, 102] (pcN x) (pcN y) ++ R = kw [105, 102] :: .bl :: sg [40] :: ((pcN x).e ++ (sg [41] :: .bl :: ((pcN y).b ++ R))) := by simp [branchC]
      rw [e]
      exact ⟨fine_kw (by decide) (fine_bl (fine_sg (by decide) h2.1 h2.2.2)) (head_bl (by decide)), ne_kw, head_kw (by decide)⟩
    show Good (branchC [105, 102] (pcN x) (pcN y) ++ (if (pcN z).has then .bl :: kw [101, 108, 115, 101] :: .bl :: (pcN z).b else []))
    split
    · have hz := iz.2.2 rfl [] fine_nil (headIs_nil _)
      rw [List.append_nil] at hz
      exact key _ (fine_bl (fine_kw (by decide) (fine_bl hz.1) (head_bl (by decide)))) (head_bl (by decide))
    · exact key _ fine_nil (headIs_nil _)
  | whil x y p hx hy ix iy =>
    refine goodS ?_
    rw [pcN_mk]
    have hb := iy.2.2 rfl [] fine_nil (headIs_nil _)
    rw [List.append_nil] at hb
    have h2 := good_app (ix.1 rfl) (b := sg [41] :: .bl :: (pcN y).b) (fine_sg (by decide) (fine_bl hb.1) (head_bl (by decide))) (head_sg (by decide))
    exact ⟨fine_kw (x := [119, 104, 105, 108, 101]) (by decide) (fine_bl (fine_sg (by decide) h2.1 h2.2.2)) (head_bl (by decide)), ne_kw (c := 119), head_kw (c := 119) (by decide)⟩
  | ret x p hx ix =>
    refine goodS ?_
    rw [pcN_mk]
    have := good_app (ix.1 rfl) close_semi.1 close_semi.2
    exact ⟨fine_kw (x := [114, 101, 116, 117, 114, 110]) (by decide) (fine_bl this.1) (head_bl (by decide)), ne_kw (c := 114), head_kw (c := 114) (by decide)⟩
  | sexpr x p hx ix =>
    refine goodS ?_
    rw [pcN_mk]
    exact good_app (ix.1 rfl) close_semi.1 close_semi.2
  | block ks p hc hk ik =>
    refine ⟨fun h => (by cases h), fun h => (by cases h), fun _ R hR hh => ?_⟩
    rw [pcN_mk]
    exact good_block (good_kids2 ik) hR hh

/-- a right program's pieces -/
theorem fine_print {t : Nd} (h : rightN t 3 = true) : Fine (printC t) := by
  have hr := of_right t 3 (by simp) h
  cases hr with
  | block ks p hc hk =>
    show Fine (programC (ks.map pcN))
    cases ks with
    | nil => exact fine_nil
    | cons x r =>
      have hk' : ∀ x ∈ r.map pcN, Good x.s := good_kids2 fun y hy => good_rt (hk y (by simp [hy]))
      have h2 := fine_blanks fine_nil soft_nil hk'
      rw [List.append_nil] at h2
      exact (good_app ((good_rt (hk x (by simp))).2.1 rfl) h2.1 h2.2).1

end Go.Proofs.YtlnllpehifkjhaaDoor
