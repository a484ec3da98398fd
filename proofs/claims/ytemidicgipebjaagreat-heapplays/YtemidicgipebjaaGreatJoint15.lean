/- Arguments of flat types, and slices of such, opened. Numbers that can be read. The document's forest. A row that came in is not longer than rows can be. -/
import Derived.Test.YtemidicgipebjaaGreatProg
import Derived.Test.YtemidicgipebjaaGreatJoint1
import Derived.ProofKit
import Derived.OpenShut
import Derived.Deep.Slices
import Derived.Carry
import Derived.KernelRfl
import Derived.Test.YtemidicgipebjaaGreatJoint9
import Derived.Test.YtemidicgipebjaaGreatJoint2
namespace Go.Proofs.YtemidicgipebjaaGreat
open Go.ChangeShapes Go.WideShapes Go.ChangeAt Go.RowKit Go.Deep

theorem laidOutF : laidOutB Tryz.prog = true := by kernel_rfl

/-- leaves: an int, a string, a bool -/
abbrev Lf := Nat
abbrev Lf.i : Lf := 0
abbrev Lf.s : Lf := 1
abbrev Lf.b : Lf := 2
def Lf.ok : Lf → Value → Prop
  | 0, v => ∃ a : Int, v = .int .i64 a ∧ -9223372036854775808 ≤ a ∧ a ≤ 9223372036854775807
  | 1, v => ∃ t : ByteArray, v = .string t ∧ t.size ≤ maxLen
  | _, v => ∃ x : Bool, v = .bool x
def flatFs (P : Program) (g : TypeId → Option (List Lf)) : List Field → Nat → Option (List Lf)
  | [], _ => some []
  | f :: r, off => if f.offset = off then (match g f.type with
      | some a => if P.cellsOf f.type = a.length then (match flatFs P g r (off + a.length) with | some b => some (a ++ b) | none => none) else none
      | none => none) else none
/-- the leaves of a flat type -/
def flat (P : Program) : Nat → TypeId → Option (List Lf)
  | 0, _ => none
  | n + 1, t => match P.underlying t with
    | some .bool => some [.b]
    | some (.int .i64) => some [.i]
    | some .string => some [.s]
    | some (.struct fs) => flatFs P (flat P n) fs.toList 0
    | _ => none
/-- cells that fit leaves -/
def FitsF (K : List Lf) (cs : List Value) : Prop := ∀ (i : Nat) (k : Lf), K[i]? = some k → ∃ u, cs[i]? = some u ∧ k.ok u
theorem fits_cons {k : Lf} {K : List Lf} {cs : List Value} (h : FitsF (k :: K) cs) : ∃ u r, cs = u :: r ∧ k.ok u ∧ FitsF K r := by
  obtain ⟨u, hu, hk⟩ := h 0 k rfl
  cases cs with
  | nil => simp at hu
  | cons x r =>
    simp at hu
    subst hu
    exact ⟨x, r, rfl, hk, fun i k' h' => by simpa using h (i + 1) k' (by simpa using h')⟩
theorem flatFs_fits {P : Program} {g : TypeId → Option (List Lf)} {rd : TypeId → List Value → Prop} (hg : ∀ t K cs, g t = some K → rd t cs → FitsF K cs) {cs : List Value} :
    ∀ (fs : List Field) (off : Nat) (K : List Lf), flatFs P g fs off = some K → (∀ f ∈ fs, rd f.type ((cs.drop f.offset).take (P.cellsOf f.type))) → ∀ i k, K[i]? = some k → ∃ u, cs[off + i]? = some u ∧ k.ok u
  | [], off, K, h, _ => by
    unfold flatFs at h
    cases h
    intro i k hk
    simp at hk
  | f :: r, off, K, h, hr => by
    unfold flatFs at h
    split at h
    · rename_i ho
      split at h
      · rename_i a ha
        split at h
        · rename_i hl
          split at h
          · rename_i b hb
            cases h
            intro i k hk
            rcases Nat.lt_or_ge i a.length with hi | hi
            · rw [List.getElem?_append_left hi] at hk
              obtain ⟨u, hu, hok⟩ := hg _ _ _ ha (hr f (by simp)) i k hk
              refine ⟨u, ?_, hok⟩
              rw [List.getElem?_take] at hu
              split at hu
              · rw [List.getElem?_drop, ho] at hu; exact hu
              · cases hu
            · rw [List.getElem?_append_right hi] at hk
              obtain ⟨u, hu, hok⟩ := flatFs_fits hg r _ b hb (fun f hf => hr f (by simp [hf])) _ k hk
              exact ⟨u, by rw [← hu]; congr 1; omega, hok⟩
          · cases h
        · cases h
      · cases h
    · cases h
theorem flat_fits {H : Type} {enc : TypeId × Value → H} {P : Program} {w : World} {base : Nat} {sp : Nat → Bool} {held : Bool} :
    ∀ (n : Nat) (t : TypeId) (K : List Lf) (cs : List Value) (fuel : Nat) (x : DataW H × List MemPlace), flat P n t = some K → DataW.trod enc P w base sp held fuel t cs = some x → FitsF K cs
  | 0, t, K, cs, fuel, x, h, _ => by cases h
  | n + 1, t, K, cs, fuel, x, h, hx => by
    unfold flat at h
    split at h
    · rename_i hu
      cases h
      obtain ⟨b, rfl, _⟩ := DataW.trod_bool hu hx
      intro i k hk
      match i with
      | 0 => simp at hk; subst hk; exact ⟨_, rfl, b, rfl⟩
      | i + 1 => simp at hk
    · rename_i hu
      cases h
      obtain ⟨a, rfl, _, wf⟩ := DataW.trod_int hu hx
      have bd := bounds_i64 wf
      intro i k hk
      match i with
      | 0 => simp at hk; subst hk; exact ⟨_, rfl, a, rfl, bd.1, bd.2⟩
      | i + 1 => simp at hk
    · rename_i hu
      cases h
      obtain ⟨s, rfl, _, wf⟩ := DataW.trod_string hu hx
      intro i k hk
      match i with
      | 0 => simp at hk; subst hk; exact ⟨_, rfl, s, rfl, wf⟩
      | i + 1 => simp at hk
    · rename_i fs hu
      obtain ⟨xs, m, _, _, _, hl, hf⟩ := DataW.trod_struct hu hx
      have := flatFs_fits (P := P) (g := flat P n) (rd := fun t cs => ∃ fuel x, DataW.trod enc P w base sp held fuel t cs = some x) (fun t K cs h1 ⟨fu, y, h2⟩ => flat_fits n t K cs fu y h1 h2) (cs := cs) fs.toList 0 K h (fun f hfm => by
        obtain ⟨i, hi⟩ := List.getElem?_of_mem hfm
        have hi' : fs[i]? = some f := by simpa using hi
        have hlt : i < fs.size := (Array.getElem?_eq_some_iff.1 hi').1
        refine ⟨m, xs[i]'(by omega), ?_⟩
        rw [hf i f hi', List.getElem?_eq_getElem (by omega)])
      intro i k hk
      simpa using this i k hk
    · cases h
set_option maxRecDepth 100000 in
/-- a struct that is flat -/
theorem open_flat {H : Type} {enc : TypeId × Value → H} {W : World} {b0 : Nat} {r : Reach} {v : Value} {d : DataW H} {p : List MemPlace} {T : TypeId} {fs : Array Field} {K : List Lf}
    (hT : Tryz.prog.underlying T = some (.struct fs)) (hK : flat Tryz.prog 5 T = some K) (hv : Value.okWide Tryz.prog W r b0 T v) (h : DataW.Trod enc Tryz.prog W 0 (fun _ => true) true T v d p) : ∃ cs : List Value, v = .agg cs.toArray ∧ cs.length = Tryz.prog.cellsOf T ∧ FitsF K cs := by
  obtain ⟨cs, rfl, hs⟩ := okWide_struct hT hv
  obtain ⟨fuel, hf⟩ := h
  exact ⟨cs.toList, by simp, by simpa using hs, flat_fits 5 T K _ fuel _ hK (by simpa [Value.cells] using hf)⟩
/-- rows of z cells each, at an address -/
def RowsAt (b off z : Nat) (l : List (List Value)) (w : World) : Prop := ∀ i r, l[i]? = some r → ∀ j u, r[j]? = some u → w.cell? ⟨b, off + i * z + j, none⟩ = some u
/-- an argument that is a slice of such rows -/
def RowsArg (z : Nat) (v : Value) (l : List (List Value)) (w : World) : Prop :=
  (∃ ao cap, v = .slice ao 0 cap ∧ l = []) ∨ ∃ b off cap, v = .slice (some ⟨b, off, none⟩) l.length cap ∧ b < w.heap.size ∧ RowsAt b off z l w
theorem rowsArg_on {z : Nat} {v : Value} {l : List (List Value)} {a c : World} (h : RowsArg z v l a) (k : Below a.heap.size a c) : RowsArg z v l c := by
  rcases h with h | ⟨b, off, cap, h1, h2, h3⟩
  · exact .inl h
  · exact .inr ⟨b, off, cap, h1, Nat.lt_of_lt_of_le h2 k.size, fun i r hi j u hj => (k.cell (p := ⟨b, off + i * z + j, none⟩) h2).trans (h3 i r hi j u hj)⟩
set_option maxRecDepth 100000 in
theorem open_flats {H : Type} {enc : TypeId × Value → H} {W : World} {b0 : Nat} {r : Reach} {v : Value} {d : DataW H} {p : List MemPlace} {S T : TypeId} {K : List Lf} {z : Nat}
    (hS : Tryz.prog.underlying S = some (.slice T)) (hK : flat Tryz.prog 5 T = some K) (hz : Tryz.prog.cellsOf T = z) (hzp : 0 < z) (hv : Value.okWide Tryz.prog W r b0 S v) (h : DataW.Trod enc Tryz.prog W 0 (fun _ => true) true S v d p) :
    ∃ l : List (List Value), RowsArg z v l W ∧ ∀ r ∈ l, r.length = z ∧ FitsF K r := by
  obtain ⟨a0, len, cap, rfl⟩ := okWide_slice hS hv
  obtain ⟨fuel, hf⟩ := h
  rcases open_slice hS hf with ⟨hcs, _⟩ | ⟨a, len', cap', m, n, D, Pl, hcs, _, hl, hm, hmm, _, hx⟩
  · simp [Value.cells] at hcs
    obtain ⟨rfl, rfl, rfl⟩ := hcs
    exact ⟨[], .inl ⟨none, 0, rfl, rfl⟩, fun t h => by cases h⟩
  · simp [Value.cells] at hcs
    obtain ⟨rfl, rfl, rfl⟩ := hcs
    simp only [if_true] at hmm
    have each : ∀ i, i < len → ∃ r : List Value, (r.length = z ∧ FitsF K r) ∧ ∀ j u, r[j]? = some u → W.cell? (a.add (i * z + j)) = some u := by
      intro i hi
      obtain ⟨cs', h1, h2⟩ := hx i (by omega)
      rw [hz] at h1
      obtain ⟨_, hlen, hcell⟩ := World.cells?_some h1
      refine ⟨cs', ⟨hlen, flat_fits 5 T K cs' _ _ hK h2⟩, fun j u hj => ?_⟩
      have hjl : j < cs'.length := (List.getElem?_eq_some_iff.1 hj).1
      have e0 := hcell j (by omega)
      rw [add_add] at e0
      rw [e0]; exact hj
    obtain ⟨f, hf'⟩ := @choose_lt (List Value) ⟨[]⟩ _ _ each
    refine ⟨(List.range len).map f, ?_, ?_⟩
    · by_cases h0 : len = 0
      · subst h0
        exact .inl ⟨_, _, rfl, rfl⟩
      · obtain ⟨b, off, spot⟩ := a
        have hr0 := hf' 0 (by omega)
        obtain ⟨u0, hu0⟩ : ∃ u, (f 0)[0]? = some u := ⟨(f 0)[0]'(by omega), List.getElem?_eq_getElem (by omega)⟩
        have hc0 := hr0.2 0 u0 hu0
        have hspot : spot = none := by simpa [Addr.add] using World.cell?_spot hc0
        subst hspot
        have ap : ∀ j, (⟨b, off, none⟩ : Addr).add j = ⟨b, off + j, none⟩ := fun j => by unfold Addr.add; split <;> simp_all
        refine .inr ⟨b, off, cap, by simp, ?_, ?_⟩
        · rw [ap] at hc0
          rcases Nat.lt_or_ge b W.heap.size with h | h
          · exact h
          · simp [World.cell?, Array.getElem?_eq_none h] at hc0
        · intro i r hi j u hj
          have hi' : i < len := by simpa using (List.getElem?_eq_some_iff.1 hi).1
          have hri : r = f i := by
            have := (List.getElem?_eq_some_iff.1 hi).2
            simpa using this.symm
          subst hri
          have hc := (hf' i hi').2 j u hj
          rw [ap] at hc
          simpa [Nat.add_assoc] using hc
    · intro r hr
      obtain ⟨i, hi, rfl⟩ := List.mem_map.1 hr
      exact (hf' i (List.mem_range.1 hi)).1
theorem rows_map {α : Type} {f : α → List Value} {P : α → Prop} : ∀ {l : List (List Value)}, (∀ r ∈ l, ∃ x, r = f x ∧ P x) → ∃ xs : List α, l = xs.map f ∧ ∀ x ∈ xs, P x
  | [], _ => ⟨[], rfl, fun _ h => by cases h⟩
  | r :: l, h => by
    obtain ⟨x, rfl, hx⟩ := h r (by simp)
    obtain ⟨xs, rfl, hxs⟩ := rows_map (l := l) (fun r hr => h r (by simp [hr]))
    exact ⟨x :: xs, rfl, fun y hy => by
      rcases List.mem_cons.1 hy with rfl | hy
      · exact hx
      · exact hxs y hy⟩

end Go.Proofs.YtemidicgipebjaaGreat

namespace Go.Proofs.YtemidicgipebjaaGreat
set_option linter.unusedSimpArgs false
open Go.RowKit

/-- numbers that can be read -/
def IntsAt (v : Value) (xs : List Int) (w : World) : Prop := (xs = [] ∧ ∃ ao cap, v = .slice ao 0 cap) ∨ ∃ b off cap, v = .slice (some ⟨b, off, none⟩) xs.length cap ∧ b < w.heap.size ∧ ∀ (j : Nat) (x : Int), xs[j]? = some x → w.cell? ⟨b, off + j, none⟩ = some (.int .i64 x)
theorem intsAt_row {B : Nat} {v : Value} {xs : List Int} {w : World} (h : w.ownsRow B 3 1 v xs.length (xs.map (Value.int .i64))) : IntsAt v xs w := by
  cases xs with
  | nil =>
    obtain ⟨ao, cap, rfl⟩ := row_shape (row_base h (Nat.zero_le _))
    exact .inl ⟨rfl, ao, cap, rfl⟩
  | cons x xs =>
    obtain ⟨g, cap, rfl, _, hl⟩ := h.form (by simp)
    refine .inr ⟨g, 0, cap, rfl, hl, fun j y hj => ?_⟩
    rw [Nat.zero_add]
    exact row_cell (row_base h (Nat.zero_le _)) (by rw [List.getElem?_map, hj]; rfl)
theorem intsAt_on {v : Value} {xs : List Int} {a c : World} (h : IntsAt v xs a) (k : Below a.heap.size a c) : IntsAt v xs c := by
  rcases h with h | ⟨b, off, cap, h1, h2, h3⟩
  · exact .inl h
  · exact .inr ⟨b, off, cap, h1, Nat.lt_of_lt_of_le h2 k.size, fun j x hj => (k.cell (p := ⟨b, off + j, none⟩) h2).trans (h3 j x hj)⟩
theorem intsAt_shape {v : Value} {xs : List Int} {w : World} (h : IntsAt v xs w) : ∃ ao cap, v = .slice ao xs.length cap := by
  rcases h with ⟨rfl, ao, cap, rfl⟩ | ⟨b, off, cap, h1, _⟩
  · exact ⟨ao, cap, rfl⟩
  · exact ⟨_, cap, h1⟩
theorem intsAt_at {ao : Option Addr} {cap j : Nat} {x : Int} {xs : List Int} {w : World} (h : IntsAt (.slice ao xs.length cap) xs w) (hj : xs[j]? = some x) : ∃ b off, ao = some ⟨b, off, none⟩ ∧ b < w.heap.size ∧ w.cell? ⟨b, off + j, none⟩ = some (.int .i64 x) := by
  rcases h with ⟨rfl, _⟩ | ⟨b, off, cap', h1, h2, h3⟩
  · simp at hj
  · injection h1 with h1
    exact ⟨b, off, h1, h2, h3 j x hj⟩

end Go.Proofs.YtemidicgipebjaaGreat

namespace Go.Proofs.YtemidicgipebjaaGreat
set_option linter.unusedSimpArgs false
open Go.RowKit

set_option maxRecDepth 100000 in
set_option maxHeartbeats 1000000 in
theorem rsame_calls {a b : Value} {xs ys : List Int} (w : World) (ha : IntsAt a xs w) (hb : IntsAt b ys w) (hx : xs.length ≤ 1000000) :
    Calls Tryz.prog 106 #[a, b] w fun e w' => e = .returned (.bool (decide (xs = ys))) ∧ Below w.heap.size w w' := by
  obtain ⟨ao, ca, rfl⟩ := intsAt_shape ha
  obtain ⟨bo, cb, rfl⟩ := intsAt_shape hb
  have HA := hid ha
  have HB := hid hb
  clear ha hb
  by_cases hl : xs.length = ys.length
  · have dl : ((xs.length : Int) != (ys.length : Int)) = false := by simp [hl]
    have HL := hid hl
    clear hl
    go_enter Tryz.func106, Tryz.ntmps106
    go_wp2_with fail
    go_loopw [5] (fun i wr => ∃ k : Nat, k ≤ xs.length ∧ i = .int .i64 k ∧ Hid (∀ j : Nat, j < k → xs[j]? = ys[j]?) ∧ Hid (Below w.heap.size w wr)) (fun i _ => xs.length - (intOf i).toNat)
    case atStart => exact ⟨0, Nat.zero_le _, rfl, hid (fun j hj => absurd hj (Nat.not_lt_zero _)), hid (Below.refl _ _)⟩
    case round =>
      obtain ⟨k, hk, rfl, hE, hB⟩ := hrel
      by_cases hkl : k < xs.length
      · obtain ⟨x, hxk⟩ : ∃ x, xs[k]? = some x := ⟨xs[k], List.getElem?_eq_getElem hkl⟩
        obtain ⟨y, hyk⟩ : ∃ y, ys[k]? = some y := ⟨ys[k]'(by have := HL.out; omega), List.getElem?_eq_getElem (by have := HL.out; omega)⟩
        obtain ⟨b1, o1, rfl, hb1, c1⟩ := intsAt_at (intsAt_on HA.out hB.out) hxk
        obtain ⟨b2, o2, rfl, hb2, c2⟩ := intsAt_at (intsAt_on HB.out hB.out) hyk
        have hky : k < ys.length := by have := HL.out; omega
        have HX := hid hxk
        have HY := hid hyk
        clear hxk hyk
        by_cases hxy : x = y
        · subst hxy
          have HE := hid (show ∀ j : Nat, j < k + 1 → xs[j]? = ys[j]? from fun j hj => by
            rcases Nat.lt_or_ge j k with h1 | h1
            · exact hE.out j h1
            · have : j = k := by omega
              subst this
              rw [HX.out, HY.out])
          clear hE
          go_wp2_with fail
          refine wp_region_held_drew (S := fun a => a.cell? ⟨b1, o1 + k, none⟩ = some (.int .i64 x) ∧ a.cell? ⟨b2, o2 + k, none⟩ = some (.int .i64 x)) (by kernel_rfl) ⟨c1, c2⟩ (fun hHeld => ?_)
          refine tkk 0 ?_
          refine tkk 1 ?_
          refine tkk 2 ?_
          refine tkk 3 ?_
          refine tkk 4 ?_
          refine tkk 5 ?_
          refine tkk 6 ?_
          refine tkk 7 ?_
          refine tkk 8 ?_
          refine wpAnyH_done (by kernel_rfl) ?_ _
          go_wp2_with fail
          exact ⟨⟨k + 1, by omega, by simp, HE, hid (hB.out.drew)⟩, by simp [intOf]; omega⟩
        · have dxy : (x != y) = true := by simpa using hxy
          have HN := hid (show decide (xs = ys) = false from decide_eq_false (fun e => by
            have h1 := HX.out
            rw [e, HY.out] at h1
            exact hxy (Option.some.inj h1).symm))
          clear hE hxy
          go_wp2_with fail
          refine wp_region_held_drew (S := fun a => a.cell? ⟨b1, o1 + k, none⟩ = some (.int .i64 x) ∧ a.cell? ⟨b2, o2 + k, none⟩ = some (.int .i64 y)) (by kernel_rfl) ⟨c1, c2⟩ (fun hHeld => ?_)
          refine tkk 0 ?_
          refine tkk 1 ?_
          refine tkk 2 ?_
          refine tkk 3 ?_
          refine tkk 4 ?_
          refine tkk 5 ?_
          refine tkk 6 ?_
          refine tkk 7 ?_
          refine tkk 8 ?_
          refine wpAnyH_done (by kernel_rfl) ?_ _
          go_wp2_with fail
          go_ret
          exact ⟨by rw [HN.out]; rfl, hB.out.drew⟩
      · have hke : k = xs.length := by omega
        subst hke
        go_wp2_with fail
        go_ret
        have he : xs = ys := by
          apply List.ext_getElem?
          intro j
          rcases Nat.lt_or_ge j xs.length with h1 | h1
          · exact hE.out j h1
          · rw [List.getElem?_eq_none h1, List.getElem?_eq_none (by have := HL.out; omega)]
        exact ⟨by rw [decide_eq_true he]; rfl, hB.out⟩
  · have dl : ((xs.length : Int) != (ys.length : Int)) = true := by simp; omega
    have HN := hid (show decide (xs = ys) = false from decide_eq_false (fun e => hl (by rw [e])))
    clear hl
    go_enter Tryz.func106, Tryz.ntmps106
    go_wp2_with fail
    go_ret
    exact ⟨by rw [HN.out]; rfl, Below.refl _ _⟩

/-- the cells of the document's list -/
def rowC : List (Sh × Value) → List Value
  | [] => []
  | q :: r => .int .i64 q.1.1 :: q.2 :: rowC r
theorem rowC_len : ∀ ps : List (Sh × Value), (rowC ps).length = ps.length * 2
  | [] => rfl
  | q :: r => by simp [rowC, rowC_len r]; omega
theorem rowC_snoc : ∀ (ps : List (Sh × Value)) (q : Sh × Value), rowC (ps ++ [q]) = rowC ps ++ [.int .i64 q.1.1, q.2]
  | [], _ => rfl
  | p :: r, q => by simp [rowC, rowC_snoc r q]
theorem rowC_at : ∀ {ps : List (Sh × Value)} {i : Nat} {q : Sh × Value}, ps[i]? = some q → (rowC ps)[i * 2]? = some (.int .i64 q.1.1) ∧ (rowC ps)[i * 2 + 1]? = some q.2
  | [], _, _, h => by simp at h
  | p :: r, 0, q, h => by
    have : p = q := by simpa using h
    subst this
    exact ⟨rfl, rfl⟩
  | p :: r, i + 1, q, h => by
    have := rowC_at (ps := r) (i := i) (q := q) (by simpa using h)
    rw [show (i + 1) * 2 = i * 2 + 1 + 1 by omega, show (i * 2 + 1 + 1) + 1 = (i * 2 + 1) + 1 + 1 by omega]
    exact this
abbrev namesOf (v : Value) (ns : List Int) (w : World) : Prop := w.ownsRow 0 3 1 v ns.length (ns.map (Value.int .i64)) ∧ (ns = [] → v = .slice none 0 0)
/-- the document's forest at r -/
def RfS (S : Nat → Prop) (r M : Nat) (L : List Sh) (w : World) : Prop :=
  ∃ v ps, Blk r 123 #[v, .int .i64 (M : Int)] w ∧ w.ownsRow 0 162 2 v L.length (rowC ps) ∧ ps.map (·.1) = L ∧ (∀ q ∈ ps, namesOf q.2 q.1.2 w) ∧ S r ∧ (∀ g, v.ownBlock = some g → S g) ∧ ∀ q ∈ ps, ∀ g, q.2.ownBlock = some g → S g
theorem RfS.mono {S T : Nat → Prop} {r M : Nat} {L : List Sh} {w : World} (h : RfS S r M L w) (hS : ∀ b, b < w.heap.size → S b → T b) : RfS T r M L w := by
  obtain ⟨v, ps, h1, h2, h3, h4, h5, h6, h7⟩ := h
  exact ⟨v, ps, h1, h2, h3, h4, hS r (blk_lt h1) h5, fun g hg => hS g (row_new h2 hg).2 (h6 g hg), fun q hq g hg => hS g (row_new (h4 q hq).1 hg).2 (h7 q hq g hg)⟩
theorem RfS.keep {S T : Nat → Prop} {r M : Nat} {L : List Sh} {a c : World} (h : RfS S r M L a) (k : Keep T a c) (hT : ∀ b, b < a.heap.size → S b → ¬ T b) : RfS S r M L c := by
  obtain ⟨v, ps, h1, h2, h3, h4, h5, h6, h7⟩ := h
  exact ⟨v, ps, blk_keep h1 k (hT r (blk_lt h1) h5), row_keep h2 (fun g hg => k.block g (row_new h2 hg).2 (hT g (row_new h2 hg).2 (h6 g hg))), h3,
    fun q hq => ⟨row_keep (h4 q hq).1 (fun g hg => k.block g (row_new (h4 q hq).1 hg).2 (hT g (row_new (h4 q hq).1 hg).2 (h7 q hq g hg))), (h4 q hq).2⟩, h5, h6, h7⟩
theorem RfS.on {S : Nat → Prop} {r M : Nat} {L : List Sh} {a c : World} (h : RfS S r M L a) (k : Below a.heap.size a c) : RfS S r M L c :=
  h.keep (T := fun _ => False) (Keep.of k) (fun _ _ _ h => h)
theorem RfS.lt {S : Nat → Prop} {r M : Nat} {L : List Sh} {w : World} (h : RfS S r M L w) : r < w.heap.size := by
  obtain ⟨v, ps, h1, _⟩ := h
  exact blk_lt h1
/-- its two cells -/
theorem RfS.cells {S : Nat → Prop} {r M : Nat} {L : List Sh} {w : World} (h : RfS S r M L w) : ∃ ao cap, w.cell? ⟨r, 0, none⟩ = some (.slice ao L.length cap) ∧ w.cell? ⟨r, 1, none⟩ = some (.int .i64 (M : Int)) := by
  obtain ⟨v, ps, h1, h2, _⟩ := h
  obtain ⟨ao, cap, rfl⟩ := row_shape h2
  exact ⟨ao, cap, by rw [blk_cell h1]; rfl, by rw [blk_cell h1]; rfl⟩
/-- a shape of it -/
theorem RfS.at' {S : Nat → Prop} {r M i : Nat} {L : List Sh} {s : Sh} {w : World} (h : RfS S r M L w) (hi : L[i]? = some s) :
    ∃ g cap no nc, w.cell? ⟨r, 0, none⟩ = some (.slice (some ⟨g, 0, none⟩) L.length cap) ∧ g < w.heap.size ∧ w.cell? ⟨g, i * 2, none⟩ = some (.int .i64 s.1) ∧ w.cell? ⟨g, i * 2 + 1, none⟩ = some (.slice no s.2.length nc) ∧ namesOf (.slice no s.2.length nc) s.2 w ∧ ∀ b, (Value.slice no s.2.length nc).ownBlock = some b → S b := by
  obtain ⟨v, ps, h1, h2, h3, h4, h5, h6, h7⟩ := h
  have hl := lt_of_get hi
  obtain ⟨g, cap, rfl, _, hlt⟩ := h2.form (by omega)
  have hp : ∃ q, ps[i]? = some q ∧ q.1 = s := by
    rw [← h3, List.getElem?_map] at hi
    obtain ⟨q, hq, e⟩ := Option.map_eq_some_iff.1 hi
    exact ⟨q, hq, e⟩
  obtain ⟨q, hq, rfl⟩ := hp
  have hm := List.mem_of_getElem? hq
  obtain ⟨no, nc, hv⟩ := row_shape (h4 q hm).1
  obtain ⟨r1, r2⟩ := rowC_at hq
  refine ⟨g, cap, no, nc, by rw [blk_cell h1]; rfl, hlt, row_cell h2 r1, by rw [← hv]; exact row_cell h2 r2, by rw [← hv]; exact h4 q hm, by rw [← hv]; exact h7 q hm⟩

theorem rnew_calls (w : World) (k : Int) :
    Calls Tryz.prog 34 #[.int .i64 k] w fun e w' => e = .returned (.pointer (some ⟨w.heap.size, 0, none⟩)) ∧ w' = w.alloc (.cells #[.slice none 0 0, .int .i64 (mostS k : Int)] 123) := by
  rcases Int.lt_or_le k 0 with h1 | h1
  · have hM : mostS k = 0 := by unfold mostS; rw [if_pos h1]
    rw [hM]
    go_enter Tryz.func34, Tryz.ntmps34
    go_wp2_with fail
    go_ret
    exact ⟨rfl, rfl⟩
  · rcases Int.lt_or_le 150 k with h2 | h2
    · have hM : mostS k = 150 := by unfold mostS; rw [if_neg (by omega), if_pos h2]
      rw [hM]
      go_enter Tryz.func34, Tryz.ntmps34
      go_wp2_with fail
      go_ret
      exact ⟨rfl, rfl⟩
    · obtain ⟨n, rfl⟩ : ∃ n : Nat, k = (n : Int) := ⟨k.toNat, by omega⟩
      have hM : mostS (n : Int) = n := by unfold mostS; rw [if_neg (by omega), if_neg (by omega)]; omega
      rw [hM]
      clear h1
      go_enter Tryz.func34, Tryz.ntmps34
      go_wp2_with fail
      go_ret
      exact ⟨rfl, rfl⟩
theorem rf_new (w : World) (M : Nat) : RfS (fun b => w.heap.size ≤ b) w.heap.size M [] (w.alloc (.cells #[.slice none 0 0, .int .i64 (M : Int)] 123)) :=
  ⟨.slice none 0 0, [], blk_new _ _ _, ⟨rfl, .inl ⟨rfl, rfl⟩⟩, rfl, (fun q hq => by cases hq), Nat.le_refl _, (fun g hg => by simp [Value.ownBlock] at hg), (fun q hq => by cases hq)⟩
theorem rhas_calls {S : Nat → Prop} {r M : Nat} {L : List Sh} (w : World) (h : RfS S r M L w) (id : Int) :
    Calls Tryz.prog 79 #[.pointer (some ⟨r, 0, none⟩), .int .i64 id] w fun e w' => e = .returned (.bool (getS L id).isSome) ∧ w' = w := by
  obtain ⟨ao, cap, c0, c1⟩ := h.cells
  clear h
  cases hs : getS L id with
  | some s =>
    obtain ⟨i, rfl, hi⟩ := getS_some hs
    have hl := lt_of_get hi
    have d1 : decide (1 ≤ ((i + 1 : Nat) : Int)) = true := decide_eq_true (by omega)
    have d2 : decide (((i + 1 : Nat) : Int) ≤ (L.length : Int)) = true := decide_eq_true (by omega)
    generalize ((i + 1 : Nat) : Int) = j at *
    clear hs hi
    go_enter Tryz.func79, Tryz.ntmps79
    go_wp2_with fail
    go_ret
    exact ⟨rfl, rfl⟩
  | none =>
    have hn := getS_none hs
    clear hs
    by_cases h1 : 1 ≤ id
    · have d1 : decide (1 ≤ id) = true := decide_eq_true h1
      have d2 : decide (id ≤ (L.length : Int)) = false := decide_eq_false (by omega)
      clear hn
      go_enter Tryz.func79, Tryz.ntmps79
      go_wp2_with fail
      go_ret
      exact ⟨rfl, rfl⟩
    · have d1 : decide (1 ≤ id) = false := decide_eq_false h1
      clear hn
      go_enter Tryz.func79, Tryz.ntmps79
      go_wp2_with fail
      go_ret
      exact ⟨rfl, rfl⟩
theorem rnames_calls {S : Nat → Prop} {r M : Nat} {L : List Sh} (w : World) (h : RfS S r M L w) (hl : L.length ≤ 150) (id : Int) :
    Calls Tryz.prog 77 #[.pointer (some ⟨r, 0, none⟩), .int .i64 id] w fun e w' => (∃ no nc, e = .returned (.slice no (namesF L id).length nc) ∧ namesOf (.slice no (namesF L id).length nc) (namesF L id) w) ∧ w' = w := by
  have HH := hid (rhas_calls w h id)
  cases hg : getS L id with
  | none =>
    have hnf : namesF L id = [] := by unfold namesF; rw [hg]
    rw [hg] at HH
    rw [hnf]
    clear h
    go_enter Tryz.func77, Tryz.ntmps77
    go_wp2_with fail
    refine HH.out.mono ?_
    rintro e1 w1 ⟨rfl, rfl⟩
    go_wp2_with fail
    go_ret
    exact ⟨⟨_, _, rfl, World.ownsRow_nil _ _ _ _, fun _ => rfl⟩, rfl⟩
  | some s =>
    rw [hg] at HH
    obtain ⟨i, rfl, hi⟩ := getS_some hg
    have hnf : namesF L ((i + 1 : Nat) : Int) = s.2 := by unfold namesF; rw [hg]
    rw [hnf]
    obtain ⟨g, cap, no, nc, c0, hgl, c1, c2, c3, _⟩ := h.at' hi
    have hil := lt_of_get hi
    have C3 := hid c3
    clear h hg hi hnf c3
    go_enter Tryz.func77, Tryz.ntmps77
    go_wp2_with fail
    refine HH.out.mono ?_
    rintro e1 w1 ⟨rfl, rfl⟩
    go_wp2_with fail
    go_ret
    exact ⟨⟨_, _, rfl, C3.out⟩, rfl⟩
theorem slotO_first : ∀ {ns : List Int} {x : Int} {k : Nat}, (∀ (i : Nat) (y : Int), i < k → ns[i]? = some y → y ≠ x) → ns[k]? = some x → slotO ns x = some k
  | [], _, _, _, h => by simp at h
  | y :: r, x, 0, _, h => by
    have : y = x := by simpa using h
    simp [slotO, this]
  | y :: r, x, k + 1, h1, h => by
    have hne : y ≠ x := h1 0 y (by omega) rfl
    rw [slotO, if_neg hne, slotO_first (k := k) (fun i z hi hz => h1 (i + 1) z (by omega) (by simpa using hz)) (by simpa using h)]
    rfl
set_option maxHeartbeats 1000000 in
theorem rslot_calls {S : Nat → Prop} {r M : Nat} {L : List Sh} (w : World) (h : RfS S r M L w) (hl : L.length ≤ 150) (hf : ∀ (i : Nat) (s : Sh), L[i]? = some s → s.2.length ≤ 12) (id x : Int) :
    Calls Tryz.prog 85 #[.pointer (some ⟨r, 0, none⟩), .int .i64 id, .int .i64 x] w fun e w' => e = .returned (.int .i64 (slotF L id x)) ∧ w' = w := by
  have HH := hid (rhas_calls w h id)
  cases hg : getS L id with
  | none =>
    rw [show slotF L id x = -1 from by unfold slotF; rw [hg]]
    rw [hg] at HH
    clear h
    go_enter Tryz.func85, Tryz.ntmps85
    go_wp2_with fail
    refine HH.out.mono ?_
    rintro e1 w1 ⟨rfl, rfl⟩
    go_wp2_with fail
    go_ret
    exact ⟨rfl, rfl⟩
  | some s =>
    rw [hg] at HH
    obtain ⟨i, rfl, hi⟩ := getS_some hg
    rw [show slotF L ((i + 1 : Nat) : Int) x = slotS s.2 x from by unfold slotF; rw [hg]]
    obtain ⟨g, cap, no, nc, c0, hgl, c1, c2, c3, _⟩ := h.at' hi
    have hil := lt_of_get hi
    have C3 := hid (intsAt_row c3.1)
    have hfew := hf i s hi
    clear h hg hi c3 hf
    go_enter Tryz.func85, Tryz.ntmps85
    go_wp2_with fail
    refine HH.out.mono ?_
    rintro e1 w1 ⟨rfl, rfl⟩
    go_wp2_with fail
    go_loopw [8] (fun q wr => ∃ k : Nat, k ≤ s.2.length ∧ q = .int .i64 k ∧ Hid (∀ (i : Nat) (y : Int), i < k → s.2[i]? = some y → y ≠ x) ∧ wr = w1) (fun q _ => s.2.length - (intOf q).toNat)
    case atStart => exact ⟨0, Nat.zero_le _, rfl, hid (fun i y hi => absurd hi (Nat.not_lt_zero _)), rfl⟩
    case round =>
      obtain ⟨k, hk, rfl, hA, rfl⟩ := hrel
      by_cases hkl : k < s.2.length
      · obtain ⟨y, hy⟩ : ∃ y, s.2[k]? = some y := ⟨s.2[k], List.getElem?_eq_getElem hkl⟩
        obtain ⟨b, off, rfl, hb, q0⟩ := intsAt_at C3.out hy
        by_cases hyx : y = x
        · subst hyx
          have HV := hid (show slotS s.2 y = (k : Int) by unfold slotS; rw [slotO_first hA.out hy])
          clear hy
          go_wp2_with fail
          go_ret
          exact ⟨by rw [HV.out]; rfl, rfl⟩
        · have dyx : (y == x) = false := by simpa using hyx
          have HA := hid (show ∀ (i : Nat) (z : Int), i < k + 1 → s.2[i]? = some z → z ≠ x from fun i z hi hz => by
            rcases Nat.lt_or_ge i k with h1 | h1
            · exact hA.out i z h1 hz
            · have : i = k := by omega
              subst this
              rw [hy] at hz
              cases hz
              exact hyx)
          clear hy hA hyx
          go_wp2_with fail
          exact ⟨⟨k + 1, by omega, by simp, HA, trivial⟩, by simp [intOf]; omega⟩
      · have hke : k = s.2.length := by omega
        subst hke
        have HV := hid (show slotS s.2 x = -1 from slotS_none (fun hm => by
          obtain ⟨i, hi⟩ := List.getElem?_of_mem hm
          exact hA.out i x (lt_of_get hi) hi rfl))
        go_wp2_with fail
        go_ret
        exact ⟨by rw [HV.out]; rfl, rfl⟩

end Go.Proofs.YtemidicgipebjaaGreat

namespace Go.Proofs.YtemidicgipebjaaGreat
open Go.ChangeShapes Go.WideShapes Go.ChangeAt Go.RowKit Go.Deep
set_option maxRecDepth 100000
theorem open_len {H : Type} {enc : TypeId × Value → H} {W : World} {b0 : Nat} {r : Reach} {v : Value} {d : DataW H} {p : List MemPlace} {S T : TypeId} {z : Nat} {l : List (List Value)}
    (hS : Tryz.prog.underlying S = some (.slice T)) (hv : Value.okWide Tryz.prog W r b0 S v) (h : DataW.Trod enc Tryz.prog W 0 (fun _ => true) true S v d p) (hr : RowsArg z v l W) : l.length ≤ maxLen := by
  obtain ⟨a0, len, cap, rfl⟩ := okWide_slice hS hv
  obtain ⟨fuel, hf⟩ := h
  have hlen : len ≤ maxLen := by
    rcases open_slice hS hf with ⟨hcs, _⟩ | ⟨a, len', cap', m, n, D, Pl, hcs, _, hl, hm, _, _, _⟩
    · simp [Value.cells] at hcs
      omega
    · simp [Value.cells] at hcs
      omega
  rcases hr with ⟨ao, cap', he, rfl⟩ | ⟨b, off, cap', he, _, _⟩
  · simp
  · injection he with _ he
    omega
end Go.Proofs.YtemidicgipebjaaGreat
