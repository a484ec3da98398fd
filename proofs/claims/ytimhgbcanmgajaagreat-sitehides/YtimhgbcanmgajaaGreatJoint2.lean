/- Steps of a region that draws, in few words. Properties by their names, as lists of pairs; and as places with holes. -/
import Derived.Test.YtimhgbcanmgajaaGreatJoint1
import Derived.Deep.RegionHeld3
import Derived.KernelRfl
import Derived.Deep.Draws
namespace Go.Proofs.YtimhgbcanmgajaaGreat
open Go.RowKit
section
variable {P : Program} {md : Region.Mode} {ops : Array Oper} {Q : Exit → Act → World → Prop} {S : World → Prop}
theorem tk (i : Nat) {oi : Oper} {v : Value} {fuel : Nat} {listed : Array Bool} {a b : Act} {w : World}
    (hy : ∀ w, S w → (execOp a.eval oi).run P w = .ok (.value v) w) (h : wpAnyH P md ops Q S fuel (listed.setIfInBounds i true) b w)
    (hi : ops[i]? = some oi := by rfl) (hs : Region.noSelect ops = true := by kernel_rfl) (hf : Region.free md ops listed i = true := by kernel_rfl) (hr : (Region.ready md ops listed).contains i = true := by kernel_rfl)
    (hQ : ∀ c a w, Q (.panic c) (a.put oi.dst v) w → Q (.panic c) a w := by exact fun _ _ _ h => h) (hg : Region.wanted oi (yielded ops a.tmps) = true := by rfl) (hS : S w := by assumption)
    (hb : a.put oi.dst v = b := by simp only [Act.put, List.setIfInBounds_toArray, List.set_cons_zero, List.set_cons_succ, List.getElem_toArray, List.getElem_cons_succ, List.getElem_cons_zero]; rfl) : wpAnyH P md ops Q S (fuel + 1) listed a w :=
  wpAnyH_take hi hs hf hr hQ (Or.inl ⟨hg, hy⟩) hS (hb ▸ h)
theorem tkk (i : Nat) {oi : Oper} {v : Value} {fuel : Nat} {listed : Array Bool} {a b : Act} {w : World}
    (h : wpAnyH P md ops Q S fuel (listed.setIfInBounds i true) b w)
    (hi : ops[i]? = some oi := by rfl) (hy : ∀ w, S w → (execOp a.eval oi).run P w = .ok (.value v) w := by intro w hSw; go_simp <;> (try with_reducible rfl)) (hs : Region.noSelect ops = true := by kernel_rfl) (hf : Region.free md ops listed i = true := by kernel_rfl) (hr : (Region.ready md ops listed).contains i = true := by kernel_rfl)
    (hQ : ∀ c a w, Q (.panic c) (a.put oi.dst v) w → Q (.panic c) a w := by exact fun _ _ _ h => h) (hg : Region.wanted oi (yielded ops a.tmps) = true := by rfl) (hS : S w := by assumption)
    (hb : a.put oi.dst v = b := by simp only [Act.put, List.setIfInBounds_toArray, List.set_cons_zero, List.set_cons_succ, List.getElem_toArray, List.getElem_cons_succ, List.getElem_cons_zero]; rfl) : wpAnyH P md ops Q S (fuel + 1) listed a w :=
  wpAnyH_take hi hs hf hr hQ (Or.inl ⟨hg, hy⟩) hS (hb ▸ h)
theorem tks (i : Nat) {oi : Oper} {fuel : Nat} {listed : Array Bool} {a b : Act} {w : World} (h : wpAnyH P md ops Q S fuel (listed.setIfInBounds i true) b w)
    (hi : ops[i]? = some oi := by rfl) (hs : Region.noSelect ops = true := by kernel_rfl) (hf : Region.free md ops listed i = true := by kernel_rfl) (hr : (Region.ready md ops listed).contains i = true := by kernel_rfl)
    (hQ : ∀ c a w, Q (.panic c) (a.put oi.dst undef) w → Q (.panic c) a w := by exact fun _ _ _ h => h) (hg : Region.wanted oi (yielded ops a.tmps) = false := by rfl) (hS : S w := by assumption)
    (hb : a.put oi.dst undef = b := by simp only [Act.put, List.setIfInBounds_toArray, List.set_cons_zero, List.set_cons_succ, List.getElem_toArray, List.getElem_cons_succ, List.getElem_cons_zero]; rfl) : wpAnyH P md ops Q S (fuel + 1) listed a w :=
  wpAnyH_take hi hs hf hr hQ (Or.inr ⟨hg, rfl⟩) hS (hb ▸ h)
theorem rdy (i : Nat) {o : Oper} {fuel : Nat} {listed : Array Bool} {a : Act} {w : World}
    (h : ∀ K' : Act → World → Prop, Shut (∀ a w, S w → (S w → wpAnyH P md ops Q S fuel (listed.setIfInBounds i true) a w) → K' a w) → if Region.wanted o (yielded ops a.tmps) = true then Oper.wp P o a w K' Q else K' (a.put o.dst undef) w)
    (ho : ops[i]? = some o := by rfl) (hr : Region.ready md ops listed = [i] := by kernel_rfl) : wpAnyH P md ops Q S (fuel + 1) listed a w :=
  wpAnyH_ready hr (by simp) (AllReadyH.cons ho h AllReadyH.nil)
end
end Go.Proofs.YtimhgbcanmgajaaGreat

namespace Go.Proofs.YtimhgbcanmgajaaGreat
open Go.RowKit

/-- a value: its kind, its number, its text -/
abbrev Vl := Int × Int × ByteArray
def vl0 : Vl := (0, 0, ⟨#[]⟩)
/-- a property: its name and its value -/
abbrev Ent := ByteArray × Vl

def look : List Ent → ByteArray → Option Vl
  | [], _ => none
  | e :: r, s => if e.1 = s then some e.2 else look r s
def hasL (l : List Ent) (s : ByteArray) : Bool := (look l s).isSome
def gotV (l : List Ent) (s : ByteArray) : Vl := (look l s).getD vl0
def setL : List Ent → ByteArray → Vl → List Ent
  | [], s, v => [(s, v)]
  | e :: r, s, v => if e.1 = s then (s, v) :: r else e :: setL r s v
def dropL (l : List Ent) (s : ByteArray) : List Ent := l.filter fun e => decide (e.1 ≠ s)
def OnceL (l : List Ent) : Prop := (l.map (·.1)).Nodup

theorem look_none {l : List Ent} {s : ByteArray} : look l s = none ↔ ∀ e ∈ l, e.1 ≠ s := by
  induction l with
  | nil => simp [look]
  | cons e r ih =>
    unfold look
    by_cases h : e.1 = s
    · rw [if_pos h]; simp [h]
    · rw [if_neg h, ih]; simp [h]
theorem hasL_iff {l : List Ent} {s : ByteArray} : hasL l s = true ↔ ∃ e ∈ l, e.1 = s := by
  unfold hasL
  cases h : look l s with
  | none =>
    have h1 := look_none.1 h
    simp only [Option.isSome_none, Bool.false_eq_true, false_iff, not_exists, not_and]
    exact h1
  | some v =>
    simp only [Option.isSome_some, true_iff]
    apply Classical.byContradiction
    intro hn
    rw [look_none.2 (fun e he h2 => hn ⟨e, he, h2⟩)] at h
    cases h
theorem setL_new {l : List Ent} {s : ByteArray} (v : Vl) (h : hasL l s = false) : setL l s v = l ++ [(s, v)] := by
  induction l with
  | nil => rfl
  | cons e r ih =>
    unfold hasL look at h
    by_cases h1 : e.1 = s
    · rw [if_pos h1] at h; simp at h
    · rw [if_neg h1] at h
      unfold setL
      rw [if_neg h1, ih h]; rfl
theorem setL_names {l : List Ent} {s : ByteArray} (v : Vl) (h : hasL l s = true) : (setL l s v).map (·.1) = l.map (·.1) := by
  induction l with
  | nil => simp [hasL, look] at h
  | cons e r ih =>
    unfold setL
    by_cases h1 : e.1 = s
    · rw [if_pos h1]; simp [h1]
    · rw [if_neg h1]
      unfold hasL look at h
      rw [if_neg h1] at h
      simp [ih h]
theorem setL_len {l : List Ent} {s : ByteArray} (v : Vl) : (setL l s v).length = if hasL l s then l.length else l.length + 1 := by
  cases h : hasL l s
  · rw [setL_new v h]; simp
  · have := congrArg List.length (setL_names v h)
    simpa using this
theorem look_setL {l : List Ent} {s : ByteArray} (v : Vl) : look (setL l s v) s = some v := by
  induction l with
  | nil => simp [setL, look]
  | cons e r ih =>
    unfold setL
    by_cases h1 : e.1 = s
    · rw [if_pos h1]; simp [look]
    · rw [if_neg h1]; unfold look; rw [if_neg h1, ih]
theorem once_set {l : List Ent} {s : ByteArray} (v : Vl) (h : OnceL l) : OnceL (setL l s v) := by
  unfold OnceL at *
  cases hh : hasL l s
  · rw [setL_new v hh, List.map_append, List.nodup_append]
    refine ⟨h, by simp, ?_⟩
    intro a ha b hb
    simp at hb
    subst hb
    obtain ⟨e, he, rfl⟩ := List.mem_map.1 ha
    intro h2
    have := hasL_iff.2 ⟨e, he, h2⟩
    rw [hh] at this; cases this
  · rw [setL_names v hh]; exact h
theorem once_drop {l : List Ent} {s : ByteArray} (h : OnceL l) : OnceL (dropL l s) := by
  unfold OnceL dropL at *
  exact h.sublist ((List.filter_sublist).map _)
theorem look_dropL {l : List Ent} {s : ByteArray} : look (dropL l s) s = none := by
  rw [look_none]
  intro e he
  have := (List.mem_filter.1 he).2
  simpa using this
theorem dropL_none {l : List Ent} {s : ByteArray} (h : hasL l s = false) : dropL l s = l := by
  unfold dropL
  rw [List.filter_eq_self]
  intro e he
  have : e.1 ≠ s := fun h2 => by have := hasL_iff.2 ⟨e, he, h2⟩; rw [h] at this; cases this
  simpa using this
theorem dropL_len {l : List Ent} {s : ByteArray} (h : OnceL l) (hh : hasL l s = true) : (dropL l s).length + 1 = l.length := by
  induction l with
  | nil => simp [hasL, look] at hh
  | cons e r ih =>
    have h1 : e.1 ∉ r.map (·.1) ∧ OnceL r := by unfold OnceL at *; simpa using h
    by_cases he : e.1 = s
    · have : hasL r s = false := by
        cases hc : hasL r s
        · rfl
        · obtain ⟨x, hx, hxs⟩ := hasL_iff.1 hc
          exact absurd (List.mem_map.2 ⟨x, hx, hxs.trans he.symm⟩) h1.1
      have h3 := dropL_none this
      have h5 : dropL (e :: r) s = dropL r s := by unfold dropL; rw [List.filter_cons]; simp [he]
      rw [h5, h3]; rfl
    · have h4 : hasL r s = true := by unfold hasL look at hh; rw [if_neg he] at hh; exact hh
      have h3 := ih h1.2 h4
      unfold dropL at *
      rw [List.filter_cons]
      simp [he]
      simpa using h3

/-- each name once, and none too long -/
def OkL (l : List Ent) : Prop := OnceL l ∧ ∀ e ∈ l, e.1.size ≤ 1000000
theorem okL_nil : OkL [] := ⟨List.nodup_nil, fun _ h => by cases h⟩
theorem ok_set {l : List Ent} {s : ByteArray} (v : Vl) (hs : s.size ≤ 1000000) (h : OkL l) : OkL (setL l s v) := by
  refine ⟨once_set v h.1, fun e he => ?_⟩
  have hm : e.1 ∈ (setL l s v).map (·.1) := List.mem_map.2 ⟨e, he, rfl⟩
  cases hh : hasL l s
  · rw [setL_new v hh] at he
    rcases List.mem_append.1 he with h1 | h1
    · exact h.2 e h1
    · simp at h1; rw [h1]; exact hs
  · rw [setL_names v hh] at hm
    obtain ⟨e', he', hee⟩ := List.mem_map.1 hm
    rw [← hee]; exact h.2 e' he'
theorem ok_drop {l : List Ent} {s : ByteArray} (h : OkL l) : OkL (dropL l s) := ⟨once_drop h.1, fun e he => h.2 e (List.mem_filter.1 he).1⟩

/-! places with holes -/
abbrev Pls := List (Option Ent)
def live (L : Pls) : List Ent := L.filterMap id
def posL : Pls → ByteArray → Option Nat
  | [], _ => none
  | none :: r, s => (posL r s).map (· + 1)
  | some e :: r, s => if e.1 = s then some 0 else (posL r s).map (· + 1)
theorem live_len (L : Pls) : (live L).length ≤ L.length := List.length_filterMap_le _ _
theorem live_append (L M : Pls) : live (L ++ M) = live L ++ live M := List.filterMap_append
theorem live_some (l : List Ent) : live (l.map some) = l := by
  induction l with
  | nil => rfl
  | cons e r ih => show e :: live (r.map some) = _; rw [ih]
theorem posL_at : ∀ {L : Pls} {s : ByteArray} {i : Nat}, posL L s = some i → ∃ v, L[i]? = some (some (s, v)) ∧ look (live L) s = some v
  | [], _, _, h => by cases h
  | none :: r, s, i, h => by
    unfold posL at h
    obtain ⟨j, hj, rfl⟩ := Option.map_eq_some_iff.1 h
    obtain ⟨v, h1, h2⟩ := posL_at hj
    exact ⟨v, by simpa using h1, by simpa [live] using h2⟩
  | some e :: r, s, i, h => by
    unfold posL at h
    by_cases he : e.1 = s
    · rw [if_pos he] at h
      cases h
      refine ⟨e.2, by simp [← he], ?_⟩
      show look (e :: live r) s = _
      unfold look; rw [if_pos he]
    · rw [if_neg he] at h
      obtain ⟨j, hj, rfl⟩ := Option.map_eq_some_iff.1 h
      obtain ⟨v, h1, h2⟩ := posL_at hj
      refine ⟨v, by simpa using h1, ?_⟩
      show look (e :: live r) s = _
      unfold look; rw [if_neg he]; exact h2
theorem posL_none : ∀ {L : Pls} {s : ByteArray}, posL L s = none → look (live L) s = none
  | [], _, _ => rfl
  | none :: r, s, h => by
    unfold posL at h
    have := posL_none (Option.map_eq_none_iff.1 h)
    simpa [live] using this
  | some e :: r, s, h => by
    unfold posL at h
    by_cases he : e.1 = s
    · rw [if_pos he] at h; cases h
    · rw [if_neg he] at h
      show look (e :: live r) s = _
      unfold look; rw [if_neg he]; exact posL_none (Option.map_eq_none_iff.1 h)
theorem posL_has (L : Pls) (s : ByteArray) : (posL L s).isSome = hasL (live L) s := by
  unfold hasL
  cases h : posL L s with
  | none => rw [posL_none h]; rfl
  | some i => obtain ⟨v, _, h2⟩ := posL_at h; rw [h2]; rfl
theorem posL_lt {L : Pls} {s : ByteArray} {i : Nat} (h : posL L s = some i) : i < L.length := by
  obtain ⟨v, h1, _⟩ := posL_at h
  exact (List.getElem?_eq_some_iff.1 h1).1
/-- a value that is set again -/
theorem posL_set : ∀ {L : Pls} {s : ByteArray} {i : Nat} (v : Vl), posL L s = some i → live (L.set i (some (s, v))) = setL (live L) s v ∧ ∀ x, posL (L.set i (some (s, v))) x = posL L x
  | [], _, _, _, h => by cases h
  | none :: r, s, i, v, h => by
    unfold posL at h
    obtain ⟨j, hj, rfl⟩ := Option.map_eq_some_iff.1 h
    obtain ⟨h1, h2⟩ := posL_set v hj
    refine ⟨by simpa [live] using h1, fun x => ?_⟩
    simp only [List.set_cons_succ, posL, h2]
  | some e :: r, s, i, v, h => by
    unfold posL at h
    by_cases he : e.1 = s
    · rw [if_pos he] at h
      cases h
      refine ⟨?_, fun x => ?_⟩
      · show (s, v) :: live r = setL (e :: live r) s v
        unfold setL; rw [if_pos he]
      · simp only [List.set_cons_zero, posL, he]
    · rw [if_neg he] at h
      obtain ⟨j, hj, rfl⟩ := Option.map_eq_some_iff.1 h
      obtain ⟨h1, h2⟩ := posL_set v hj
      refine ⟨?_, fun x => ?_⟩
      · show e :: live (r.set j (some (s, v))) = setL (e :: live r) s v
        unfold setL; rw [if_neg he, h1]
      · simp only [List.set_cons_succ, posL, h2]
theorem posL_snoc : ∀ (L : Pls) (s : ByteArray) (v : Vl) (x : ByteArray), posL (L ++ [some (s, v)]) x = if (posL L x).isSome then posL L x else if s = x then some L.length else none
  | [], s, v, x => by simp [posL]
  | none :: r, s, v, x => by
    simp only [List.cons_append, posL, posL_snoc r s v x]
    rcases Option.eq_none_or_eq_some (posL r x) with h1 | ⟨j, h1⟩ <;> by_cases h : s = x <;> simp [h, h1]
  | some e :: r, s, v, x => by
    simp only [List.cons_append, posL, posL_snoc r s v x]
    by_cases he : e.1 = x
    · simp [he]
    · simp only [if_neg he]
      rcases Option.eq_none_or_eq_some (posL r x) with h1 | ⟨j, h1⟩ <;> by_cases h : s = x <;> simp [h, h1]
/-- a property that is let go -/
theorem posL_drop : ∀ {L : Pls} {s : ByteArray} {i : Nat}, OnceL (live L) → posL L s = some i → live (L.set i none) = dropL (live L) s ∧ ∀ x, posL (L.set i none) x = if x = s then none else posL L x
  | [], _, _, _, h => by cases h
  | none :: r, s, i, ho, h => by
    unfold posL at h
    obtain ⟨j, hj, rfl⟩ := Option.map_eq_some_iff.1 h
    obtain ⟨h1, h2⟩ := posL_drop (L := r) (by simpa [live] using ho) hj
    refine ⟨by simpa [live] using h1, fun x => ?_⟩
    simp only [List.set_cons_succ, posL, h2]
    by_cases hx : x = s <;> simp [hx]
  | some e :: r, s, i, ho, h => by
    have ho' : e.1 ∉ (live r).map (·.1) ∧ OnceL (live r) := by
      have : OnceL (e :: live r) := ho
      unfold OnceL at *; simpa using this
    have hno : hasL (live r) e.1 = false := by
      cases hc : hasL (live r) e.1
      · rfl
      · obtain ⟨x, hx, hxs⟩ := hasL_iff.1 hc
        exact absurd (List.mem_map.2 ⟨x, hx, hxs⟩) ho'.1
    unfold posL at h
    by_cases he : e.1 = s
    · rw [if_pos he] at h
      cases h
      refine ⟨?_, fun x => ?_⟩
      · show live r = dropL (e :: live r) s
        have := dropL_none hno
        unfold dropL at *
        rw [List.filter_cons]
        simp [he]
        simpa [he] using this.symm
      · simp only [List.set_cons_zero, posL]
        by_cases hx : x = s
        · subst hx
          have : posL r x = none := by
            have := posL_has r x
            rw [← he, hno] at this
            simpa [he] using this
          simp [this]
        · have : ¬ e.1 = x := fun h => hx (h.symm.trans he)
          simp [hx, this]
    · rw [if_neg he] at h
      obtain ⟨j, hj, rfl⟩ := Option.map_eq_some_iff.1 h
      obtain ⟨h1, h2⟩ := posL_drop ho'.2 hj
      refine ⟨?_, fun x => ?_⟩
      · show e :: live (r.set j none) = dropL (e :: live r) s
        unfold dropL at *
        rw [List.filter_cons]
        simp [he, h1]
      · simp only [List.set_cons_succ, posL, h2]
        by_cases hx : x = s
        · subst hx; simp [he]
        · simp [hx]
theorem live_drop_len {L : Pls} {s : ByteArray} {i : Nat} (ho : OnceL (live L)) (h : posL L s = some i) : (live (L.set i none)).length + 1 = (live L).length := by
  rw [(posL_drop ho h).1]
  exact dropL_len ho (by rw [← posL_has, h]; rfl)
theorem posL_map {l : List Ent} {s : ByteArray} (h : hasL l s = false) : posL (l.map some) s = none := by
  have := posL_has (l.map some) s
  rw [live_some, h] at this
  simpa using this
/-- the places up to one -/
theorem live_take {L : Pls} {j : Nat} {o : Option Ent} (h : L[j]? = some o) : live (L.take (j + 1)) = live (L.take j) ++ live [o] := by
  rw [List.take_add_one, h, live_append]; rfl
theorem live_no {L : Pls} {j : Nat} {e : Ent} (ho : OnceL (live L)) (h : L[j]? = some (some e)) : hasL (live (L.take j)) e.1 = false := by
  have hl : j < L.length := (List.getElem?_eq_some_iff.1 h).1
  have e1 : live L = live (L.take (j + 1)) ++ live (L.drop (j + 1)) := by rw [← live_append, List.take_append_drop]
  rw [e1, live_take h] at ho
  unfold OnceL at ho
  rw [List.map_append, List.map_append] at ho
  have h2 := (List.nodup_append.1 (List.nodup_append.1 ho).1).2.2
  cases hc : hasL (live (L.take j)) e.1
  · rfl
  · obtain ⟨x, hx, hxs⟩ := hasL_iff.1 hc
    exact absurd hxs (h2 x.1 (List.mem_map.2 ⟨x, hx, rfl⟩) e.1 (by simp [live]))
/-- without holes -/
theorem full_some : ∀ {L : Pls}, (live L).length = L.length → L = (live L).map some
  | [], _ => rfl
  | none :: r, h => by
    have := live_len r
    simp [live] at h this
    omega
  | some e :: r, h => by
    have h1 : (live r).length = r.length := by simpa [live] using h
    have := full_some h1
    show some e :: r = some e :: (live r).map some
    rw [← this]

end Go.Proofs.YtimhgbcanmgajaaGreat
