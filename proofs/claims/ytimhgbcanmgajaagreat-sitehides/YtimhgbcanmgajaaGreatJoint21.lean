/- Arguments of flat types, and slices of such, opened. Acts of the laws of sites: in memory, and whether their texts are long. Shapes do not show: two heaps whose objects are alike but for shapes. -/
import Derived.Test.YtimhgbcanmgajaaGreatProg
import Derived.Test.YtimhgbcanmgajaaGreatJoint1
import Derived.ProofKit
import Derived.OpenShut
import Derived.Deep.Slices
import Derived.Carry
import Derived.KernelRfl
import Derived.Test.YtimhgbcanmgajaaGreatJoint19
import Derived.Lib.Strings
import Derived.Test.YtimhgbcanmgajaaGreatJoint16
namespace Go.Proofs.YtimhgbcanmgajaaGreat
open Go.ChangeShapes Go.WideShapes Go.ChangeAt Go.RowKit Go.Deep

theorem laidOutF : laidOutB Tryz.prog = true := by kernel_rfl

/-- leaves: an int, a string, a bool -/
abbrev Lf := Nat
abbrev Lf.i : Lf := 0
abbrev Lf.s : Lf := 1
abbrev Lf.b : Lf := 2
def Lf.ok : Lf → Value → Prop
  | 0, v => ∃ a : Int, v = .int .i64 a ∧ -9223372036854775808 ≤ a ∧ a ≤ 9223372036854775807
  | 1, v => ∃ t : ByteArray, v = .string t ∧ t.size ≤ maxLen
  | _, v => ∃ x : Bool, v = .bool x
def flatFs (P : Program) (g : TypeId → Option (List Lf)) : List Field → Nat → Option (List Lf)
  | [], _ => some []
  | f :: r, off => if f.offset = off then (match g f.type with
      | some a => if P.cellsOf f.type = a.length then (match flatFs P g r (off + a.length) with | some b => some (a ++ b) | none => none) else none
      | none => none) else none
/-- the leaves of a flat type -/
def flat (P : Program) : Nat → TypeId → Option (List Lf)
  | 0, _ => none
  | n + 1, t => match P.underlying t with
    | some .bool => some [.b]
    | some (.int .i64) => some [.i]
    | some .string => some [.s]
    | some (.struct fs) => flatFs P (flat P n) fs.toList 0
    | _ => none
/-- cells that fit leaves -/
def FitsF (K : List Lf) (cs : List Value) : Prop := ∀ (i : Nat) (k : Lf), K[i]? = some k → ∃ u, cs[i]? = some u ∧ k.ok u
theorem fits_cons {k : Lf} {K : List Lf} {cs : List Value} (h : FitsF (k :: K) cs) : ∃ u r, cs = u :: r ∧ k.ok u ∧ FitsF K r := by
  obtain ⟨u, hu, hk⟩ := h 0 k rfl
  cases cs with
  | nil => simp at hu
  | cons x r =>
    simp at hu
    subst hu
    exact ⟨x, r, rfl, hk, fun i k' h' => by simpa using h (i + 1) k' (by simpa using h')⟩
theorem flatFs_fits {P : Program} {g : TypeId → Option (List Lf)} {rd : TypeId → List Value → Prop} (hg : ∀ t K cs, g t = some K → rd t cs → FitsF K cs) {cs : List Value} :
    ∀ (fs : List Field) (off : Nat) (K : List Lf), flatFs P g fs off = some K → (∀ f ∈ fs, rd f.type ((cs.drop f.offset).take (P.cellsOf f.type))) → ∀ i k, K[i]? = some k → ∃ u, cs[off + i]? = some u ∧ k.ok u
  | [], off, K, h, _ => by
    unfold flatFs at h
    cases h
    intro i k hk
    simp at hk
  | f :: r, off, K, h, hr => by
    unfold flatFs at h
    split at h
    · rename_i ho
      split at h
      · rename_i a ha
        split at h
        · rename_i hl
          split at h
          · rename_i b hb
            cases h
            intro i k hk
            rcases Nat.lt_or_ge i a.length with hi | hi
            · rw [List.getElem?_append_left hi] at hk
              obtain ⟨u, hu, hok⟩ := hg _ _ _ ha (hr f (by simp)) i k hk
              refine ⟨u, ?_, hok⟩
              rw [List.getElem?_take] at hu
              split at hu
              · rw [List.getElem?_drop, ho] at hu; exact hu
              · cases hu
            · rw [List.getElem?_append_right hi] at hk
              obtain ⟨u, hu, hok⟩ := flatFs_fits hg r _ b hb (fun f hf => hr f (by simp [hf])) _ k hk
              exact ⟨u, by rw [← hu]; congr 1; omega, hok⟩
          · cases h
        · cases h
      · cases h
    · cases h
theorem flat_fits {H : Type} {enc : TypeId × Value → H} {P : Program} {w : World} {base : Nat} {sp : Nat → Bool} {held : Bool} :
    ∀ (n : Nat) (t : TypeId) (K : List Lf) (cs : List Value) (fuel : Nat) (x : DataW H × List MemPlace), flat P n t = some K → DataW.trod enc P w base sp held fuel t cs = some x → FitsF K cs
  | 0, t, K, cs, fuel, x, h, _ => by cases h
  | n + 1, t, K, cs, fuel, x, h, hx => by
    unfold flat at h
    split at h
    · rename_i hu
      cases h
      obtain ⟨b, rfl, _⟩ := DataW.trod_bool hu hx
      intro i k hk
      match i with
      | 0 => simp at hk; subst hk; exact ⟨_, rfl, b, rfl⟩
      | i + 1 => simp at hk
    · rename_i hu
      cases h
      obtain ⟨a, rfl, _, wf⟩ := DataW.trod_int hu hx
      have bd := bounds_i64 wf
      intro i k hk
      match i with
      | 0 => simp at hk; subst hk; exact ⟨_, rfl, a, rfl, bd.1, bd.2⟩
      | i + 1 => simp at hk
    · rename_i hu
      cases h
      obtain ⟨s, rfl, _, wf⟩ := DataW.trod_string hu hx
      intro i k hk
      match i with
      | 0 => simp at hk; subst hk; exact ⟨_, rfl, s, rfl, wf⟩
      | i + 1 => simp at hk
    · rename_i fs hu
      obtain ⟨xs, m, _, _, _, hl, hf⟩ := DataW.trod_struct hu hx
      have := flatFs_fits (P := P) (g := flat P n) (rd := fun t cs => ∃ fuel x, DataW.trod enc P w base sp held fuel t cs = some x) (fun t K cs h1 ⟨fu, y, h2⟩ => flat_fits n t K cs fu y h1 h2) (cs := cs) fs.toList 0 K h (fun f hfm => by
        obtain ⟨i, hi⟩ := List.getElem?_of_mem hfm
        have hi' : fs[i]? = some f := by simpa using hi
        have hlt : i < fs.size := (Array.getElem?_eq_some_iff.1 hi').1
        refine ⟨m, xs[i]'(by omega), ?_⟩
        rw [hf i f hi', List.getElem?_eq_getElem (by omega)])
      intro i k hk
      simpa using this i k hk
    · cases h
set_option maxRecDepth 100000 in
/-- a struct that is flat -/
theorem open_flat {H : Type} {enc : TypeId × Value → H} {W : World} {b0 : Nat} {r : Reach} {v : Value} {d : DataW H} {p : List MemPlace} {T : TypeId} {fs : Array Field} {K : List Lf}
    (hT : Tryz.prog.underlying T = some (.struct fs)) (hK : flat Tryz.prog 5 T = some K) (hv : Value.okWide Tryz.prog W r b0 T v) (h : DataW.Trod enc Tryz.prog W 0 (fun _ => true) true T v d p) : ∃ cs : List Value, v = .agg cs.toArray ∧ cs.length = Tryz.prog.cellsOf T ∧ FitsF K cs := by
  obtain ⟨cs, rfl, hs⟩ := okWide_struct hT hv
  obtain ⟨fuel, hf⟩ := h
  exact ⟨cs.toList, by simp, by simpa using hs, flat_fits 5 T K _ fuel _ hK (by simpa [Value.cells] using hf)⟩
/-- rows of z cells each, at an address -/
def RowsAt (b off z : Nat) (l : List (List Value)) (w : World) : Prop := ∀ i r, l[i]? = some r → ∀ j u, r[j]? = some u → w.cell? ⟨b, off + i * z + j, none⟩ = some u
/-- an argument that is a slice of such rows -/
def RowsArg (z : Nat) (v : Value) (l : List (List Value)) (w : World) : Prop :=
  (∃ ao cap, v = .slice ao 0 cap ∧ l = []) ∨ ∃ b off cap, v = .slice (some ⟨b, off, none⟩) l.length cap ∧ b < w.heap.size ∧ RowsAt b off z l w
theorem rowsArg_on {z : Nat} {v : Value} {l : List (List Value)} {a c : World} (h : RowsArg z v l a) (k : Below a.heap.size a c) : RowsArg z v l c := by
  rcases h with h | ⟨b, off, cap, h1, h2, h3⟩
  · exact .inl h
  · exact .inr ⟨b, off, cap, h1, Nat.lt_of_lt_of_le h2 k.size, fun i r hi j u hj => (k.cell (p := ⟨b, off + i * z + j, none⟩) h2).trans (h3 i r hi j u hj)⟩
set_option maxRecDepth 100000 in
theorem open_flats {H : Type} {enc : TypeId × Value → H} {W : World} {b0 : Nat} {r : Reach} {v : Value} {d : DataW H} {p : List MemPlace} {S T : TypeId} {K : List Lf} {z : Nat}
    (hS : Tryz.prog.underlying S = some (.slice T)) (hK : flat Tryz.prog 5 T = some K) (hz : Tryz.prog.cellsOf T = z) (hzp : 0 < z) (hv : Value.okWide Tryz.prog W r b0 S v) (h : DataW.Trod enc Tryz.prog W 0 (fun _ => true) true S v d p) :
    ∃ l : List (List Value), RowsArg z v l W ∧ ∀ r ∈ l, r.length = z ∧ FitsF K r := by
  obtain ⟨a0, len, cap, rfl⟩ := okWide_slice hS hv
  obtain ⟨fuel, hf⟩ := h
  rcases open_slice hS hf with ⟨hcs, _⟩ | ⟨a, len', cap', m, n, D, Pl, hcs, _, hl, hm, hmm, _, hx⟩
  · simp [Value.cells] at hcs
    obtain ⟨rfl, rfl, rfl⟩ := hcs
    exact ⟨[], .inl ⟨none, 0, rfl, rfl⟩, fun t h => by cases h⟩
  · simp [Value.cells] at hcs
    obtain ⟨rfl, rfl, rfl⟩ := hcs
    simp only [if_true] at hmm
    have each : ∀ i, i < len → ∃ r : List Value, (r.length = z ∧ FitsF K r) ∧ ∀ j u, r[j]? = some u → W.cell? (a.add (i * z + j)) = some u := by
      intro i hi
      obtain ⟨cs', h1, h2⟩ := hx i (by omega)
      rw [hz] at h1
      obtain ⟨_, hlen, hcell⟩ := World.cells?_some h1
      refine ⟨cs', ⟨hlen, flat_fits 5 T K cs' _ _ hK h2⟩, fun j u hj => ?_⟩
      have hjl : j < cs'.length := (List.getElem?_eq_some_iff.1 hj).1
      have e0 := hcell j (by omega)
      rw [add_add] at e0
      rw [e0]; exact hj
    obtain ⟨f, hf'⟩ := @choose_lt (List Value) ⟨[]⟩ _ _ each
    refine ⟨(List.range len).map f, ?_, ?_⟩
    · by_cases h0 : len = 0
      · subst h0
        exact .inl ⟨_, _, rfl, rfl⟩
      · obtain ⟨b, off, spot⟩ := a
        have hr0 := hf' 0 (by omega)
        obtain ⟨u0, hu0⟩ : ∃ u, (f 0)[0]? = some u := ⟨(f 0)[0]'(by omega), List.getElem?_eq_getElem (by omega)⟩
        have hc0 := hr0.2 0 u0 hu0
        have hspot : spot = none := by simpa [Addr.add] using World.cell?_spot hc0
        subst hspot
        have ap : ∀ j, (⟨b, off, none⟩ : Addr).add j = ⟨b, off + j, none⟩ := fun j => by unfold Addr.add; split <;> simp_all
        refine .inr ⟨b, off, cap, by simp, ?_, ?_⟩
        · rw [ap] at hc0
          rcases Nat.lt_or_ge b W.heap.size with h | h
          · exact h
          · simp [World.cell?, Array.getElem?_eq_none h] at hc0
        · intro i r hi j u hj
          have hi' : i < len := by simpa using (List.getElem?_eq_some_iff.1 hi).1
          have hri : r = f i := by
            have := (List.getElem?_eq_some_iff.1 hi).2
            simpa using this.symm
          subst hri
          have hc := (hf' i hi').2 j u hj
          rw [ap] at hc
          simpa [Nat.add_assoc] using hc
    · intro r hr
      obtain ⟨i, hi, rfl⟩ := List.mem_map.1 hr
      exact (hf' i (List.mem_range.1 hi)).1
theorem rows_map {α : Type} {f : α → List Value} {P : α → Prop} : ∀ {l : List (List Value)}, (∀ r ∈ l, ∃ x, r = f x ∧ P x) → ∃ xs : List α, l = xs.map f ∧ ∀ x ∈ xs, P x
  | [], _ => ⟨[], rfl, fun _ h => by cases h⟩
  | r :: l, h => by
    obtain ⟨x, rfl, hx⟩ := h r (by simp)
    obtain ⟨xs, rfl, hxs⟩ := rows_map (l := l) (fun r hr => h r (by simp [hr]))
    exact ⟨x :: xs, rfl, fun y hy => by
      rcases List.mem_cons.1 hy with rfl | hy
      · exact hx
      · exact hxs y hy⟩

end Go.Proofs.YtimhgbcanmgajaaGreat

namespace Go.Proofs.YtimhgbcanmgajaaGreat
set_option linter.unusedSimpArgs false
set_option maxRecDepth 100000
open Go.RowKit

/-- an act: do, function, site, a, b, name, value -/
structure AcS where
  d : Int
  f : Int
  s : Int
  a : Int
  b : Int
  n : ByteArray
  v : Vl
def acSC (a : AcS) : List Value := [.int .i64 a.d, .int .i64 a.f, .int .i64 a.s, .int .i64 a.a, .int .i64 a.b, .string a.n, .int .i64 a.v.1, .int .i64 a.v.2.1, .string a.v.2.2]
abbrev acSV (a : AcS) : Value := .agg #[.int .i64 a.d, .int .i64 a.f, .int .i64 a.s, .int .i64 a.a, .int .i64 a.b, .string a.n, .int .i64 a.v.1, .int .i64 a.v.2.1, .string a.v.2.2]
abbrev acSO (a : AcS) : Obj := .cells #[.int .i64 a.d, .int .i64 a.f, .int .i64 a.s, .int .i64 a.a, .int .i64 a.b, .string a.n, .int .i64 a.v.1, .int .i64 a.v.2.1, .string a.v.2.2] 39
def acSI (a : AcS) : Prop := a.n.size ≤ maxLen ∧ a.v.2.2.size ≤ maxLen ∧ I64 a.v.2.1
theorem sacts_of {l : List (List Value)} (h : ∀ r ∈ l, r.length = 9 ∧ FitsF [.i, .i, .i, .i, .i, .s, .i, .i, .s] r) : ∃ xs : List AcS, l = xs.map acSC ∧ ∀ x ∈ xs, acSI x := by
  apply rows_map
  intro r hr
  obtain ⟨hl, hf0⟩ := h r hr
  obtain ⟨_, c0, rfl, ⟨y0, rfl, q0⟩, hf1⟩ := fits_cons hf0
  obtain ⟨_, c1, rfl, ⟨y1, rfl, q1⟩, hf2⟩ := fits_cons hf1
  obtain ⟨_, c2, rfl, ⟨y2, rfl, q2⟩, hf3⟩ := fits_cons hf2
  obtain ⟨_, c3, rfl, ⟨y3, rfl, q3⟩, hf4⟩ := fits_cons hf3
  obtain ⟨_, c4, rfl, ⟨y4, rfl, q4⟩, hf5⟩ := fits_cons hf4
  obtain ⟨_, c5, rfl, ⟨y5, rfl, q5⟩, hf6⟩ := fits_cons hf5
  obtain ⟨_, c6, rfl, ⟨y6, rfl, q6⟩, hf7⟩ := fits_cons hf6
  obtain ⟨_, c7, rfl, ⟨y7, rfl, q7⟩, hf8⟩ := fits_cons hf7
  obtain ⟨_, c8, rfl, ⟨y8, rfl, q8⟩, hf9⟩ := fits_cons hf8
  have e : c8 = [] := List.length_eq_zero_iff.1 (by simpa using hl)
  subst e
  exact ⟨⟨y0, y1, y2, y3, y4, y5, (y6, y7, y8)⟩, rfl, q5, q8, q7⟩
theorem sacts_shape {v : Value} {xs : List AcS} {w : World} (h : RowsArg 9 v (xs.map acSC) w) : ∃ ao cap, v = .slice ao xs.length cap := by
  rcases h with ⟨ao, cap, rfl, h⟩ | ⟨b, off, cap, rfl, _⟩
  · have : xs = [] := by simpa using h
    subst this
    exact ⟨ao, cap, rfl⟩
  · exact ⟨_, cap, by rw [List.length_map]⟩
theorem sact_at {ao : Option Addr} {cap j : Nat} {xs : List AcS} {w : World} (h : RowsArg 9 (.slice ao xs.length cap) (xs.map acSC) w) {a : AcS} (hj : xs[j]? = some a) :
    ∃ b off, ao = some ⟨b, off, none⟩ ∧ b < w.heap.size ∧ w.cell? ⟨b, off + j * 9, none⟩ = some (.int .i64 a.d) ∧ w.cell? ⟨b, off + j * 9 + 1, none⟩ = some (.int .i64 a.f) ∧ w.cell? ⟨b, off + j * 9 + 2, none⟩ = some (.int .i64 a.s) ∧ w.cell? ⟨b, off + j * 9 + 3, none⟩ = some (.int .i64 a.a) ∧ w.cell? ⟨b, off + j * 9 + 4, none⟩ = some (.int .i64 a.b) ∧ w.cell? ⟨b, off + j * 9 + 5, none⟩ = some (.string a.n) ∧
      w.cell? ⟨b, off + j * 9 + 6, none⟩ = some (.int .i64 a.v.1) ∧ w.cell? ⟨b, off + j * 9 + 7, none⟩ = some (.int .i64 a.v.2.1) ∧ w.cell? ⟨b, off + j * 9 + 8, none⟩ = some (.string a.v.2.2) := by
  rcases h with ⟨ao', cap', he, h⟩ | ⟨b, off, cap', he, hb, hr⟩
  · have : xs = [] := by simpa using h
    subst this
    simp at hj
  · injection he with he1
    subst he1
    have hm : (xs.map acSC)[j]? = some (acSC a) := by simp [hj]
    exact ⟨b, off, rfl, hb, hr j _ hm 0 _ rfl, hr j _ hm 1 _ rfl, hr j _ hm 2 _ rfl, hr j _ hm 3 _ rfl, hr j _ hm 4 _ rfl, hr j _ hm 5 _ rfl, hr j _ hm 6 _ rfl, hr j _ hm 7 _ rfl, hr j _ hm 8 _ rfl⟩
def longS (a : AcS) : Bool := decide (300 < a.n.size) || decide (300 < a.v.2.2.size)
theorem not_longS {a : AcS} (h : longS a = false) : a.n.size ≤ 300 ∧ a.v.2.2.size ≤ 300 := by
  unfold longS at h
  rw [Bool.or_eq_false_iff, decide_eq_false_iff_not, decide_eq_false_iff_not] at h
  omega
theorem slong_calls (a : AcS) (h1 : a.n.size ≤ maxLen) (h2 : a.v.2.2.size ≤ maxLen) (w : World) :
    Calls Tryz.prog 12 #[acSV a] w fun e w' => e = .returned (.bool (longS a)) ∧ Below w.heap.size w w' := by
  have HA := hid ((Below.refl w.heap.size w).alloc (Nat.le_refl _) (acSO a))
  unfold maxLen at h1 h2
  by_cases hn : 300 < a.n.size
  · have e : longS a = true := by unfold longS; simp [hn]
    rw [e]
    clear e
    go_enter Tryz.func12, Tryz.ntmps12
    go_wp2_with fail
    go_ret
    exact ⟨rfl, HA.out⟩
  · by_cases hv : 300 < a.v.2.2.size
    · have e : longS a = true := by unfold longS; simp [hv]
      rw [e]
      clear e
      have hd1 : decide ((300 : Int) < (a.n.size : Int)) = false := decide_eq_false (by omega)
      have hd2 : decide ((300 : Int) < (a.v.2.2.size : Int)) = true := decide_eq_true (by omega)
      go_enter Tryz.func12, Tryz.ntmps12
      go_wp2_with fail
      go_ret
      exact ⟨rfl, HA.out⟩
    · have e : longS a = false := by unfold longS; simp [hn, hv]
      rw [e]
      clear e
      have hd1 : decide ((300 : Int) < (a.n.size : Int)) = false := decide_eq_false (by omega)
      have hd2 : decide ((300 : Int) < (a.v.2.2.size : Int)) = false := decide_eq_false (by omega)
      go_enter Tryz.func12, Tryz.ntmps12
      go_wp2_with fail
      go_ret
      exact ⟨rfl, HA.out⟩
end Go.Proofs.YtimhgbcanmgajaaGreat

namespace Go.Proofs.YtimhgbcanmgajaaGreat
set_option linter.unusedSimpArgs false
open Go.RowKit

def core (x : Ob) : Nat × List Ent × Nat := (x.pr, x.l, x.ep)
structure Alike (H G : He) : Prop where
  most : H.most = G.most
  props : H.props = G.props
  os : H.os.map core = G.os.map core
theorem Alike.len {H G : He} (h : Alike H G) : H.os.length = G.os.length := by
  have := congrArg List.length h.os
  simpa using this
theorem Alike.get {H G : He} (h : Alike H G) (o : Int) : (getO H o).map core = (getO G o).map core := by
  unfold getO
  split
  · rw [← List.getElem?_map, ← List.getElem?_map, h.os]
  · rfl
theorem Alike.cases {H G : He} (h : Alike H G) (o : Int) : (getO H o = none ∧ getO G o = none) ∨ ∃ x y, getO H o = some x ∧ getO G o = some y ∧ x.pr = y.pr ∧ x.l = y.l ∧ x.ep = y.ep := by
  have e := h.get o
  cases hx : getO H o with
  | none =>
    rw [hx] at e
    cases hy : getO G o with
    | none => exact .inl ⟨rfl, rfl⟩
    | some y => rw [hy] at e; cases e
  | some x =>
    rw [hx] at e
    cases hy : getO G o with
    | none => rw [hy] at e; cases e
    | some y =>
      rw [hy] at e
      have e2 : core x = core y := by simpa using e
      unfold core at e2
      injection e2 with a b
      injection b with b c
      exact .inr ⟨x, y, rfl, rfl, a, b, c⟩
theorem Alike.proto {H G : He} (h : Alike H G) (o : Int) : protoH H o = protoH G o := by
  unfold protoH
  rcases h.cases o with ⟨a, b⟩ | ⟨x, y, a, b, c, _⟩
  · rw [a, b]
  · rw [a, b]; exact c
theorem Alike.own {H G : He} (h : Alike H G) (o : Int) (s : ByteArray) : ownH H o s = ownH G o s := by
  unfold ownH
  rcases h.cases o with ⟨a, b⟩ | ⟨x, y, a, b, _, c, _⟩
  · rw [a, b]
  · rw [a, b]; dsimp only; rw [c]
theorem Alike.epoch {H G : He} (h : Alike H G) (o : Int) : epochH H o = epochH G o := by
  unfold epochH
  rcases h.cases o with ⟨a, b⟩ | ⟨x, y, a, b, _, _, c⟩
  · rw [a, b]
  · rw [a, b]; exact c
theorem Alike.getF' {H G : He} (h : Alike H G) (s : ByteArray) : ∀ (n : Nat) (o : Int), getF H s n o = getF G s n o
  | 0, _ => rfl
  | n + 1, o => by
    show (match ownH H o s with | some v => v | none => getF H s n (protoH H o)) = (match ownH G o s with | some v => v | none => getF G s n (protoH G o))
    rw [h.own o s, h.proto o, h.getF' s n]
theorem Alike.got {H G : He} (h : Alike H G) (o : Int) (s : ByteArray) : gotH H o s = gotH G o s := by
  unfold gotH
  rw [h.len]
  exact h.getF' s _ o
theorem Alike.onC' {H G : He} (h : Alike H G) (q : Int) : ∀ (n : Nat) (o : Int), onC H q n o = onC G q n o
  | 0, _ => rfl
  | n + 1, o => by
    show (if o < 1 then false else if o = q then true else onC H q n (protoH H o)) = (if o < 1 then false else if o = q then true else onC G q n (protoH G o))
    rw [h.proto o, h.onC' q n]
theorem Alike.none {H G : He} (h : Alike H G) (o : Int) : (getO H o = none) = (getO G o = none) := by
  rcases h.cases o with ⟨a, b⟩ | ⟨x, y, a, b, _⟩
  · rw [a, b]
  · rw [a, b]; simp
theorem alike_put {H G : He} (h : Alike H G) (i : Nat) {x y : Ob} (hc : core x = core y) : Alike (putI H i x) (putI G i y) :=
  ⟨h.most, h.props, by unfold putI; simp only [List.map_set, hc, h.os]⟩
theorem alike_next {H G : He} (h : Alike H G) (a b : Int) (s : ByteArray) : Alike (nextH H a s) (nextH G b s) := by
  have e1 : (nextH H a s).most = H.most ∧ (nextH H a s).props = H.props ∧ (nextH H a s).os = H.os := by unfold nextH; split <;> exact ⟨rfl, rfl, rfl⟩
  have e2 : (nextH G b s).most = G.most ∧ (nextH G b s).props = G.props ∧ (nextH G b s).os = G.os := by unfold nextH; split <;> exact ⟨rfl, rfl, rfl⟩
  exact ⟨by rw [e1.1, e2.1]; exact h.most, by rw [e1.2.1, e2.2.1]; exact h.props, by rw [e1.2.2, e2.2.2]; exact h.os⟩
theorem alike_new (a b j k : Int) : Alike (newH a b j) (newH a b k) := ⟨rfl, rfl, rfl⟩
theorem alike_make {H G : He} (h : Alike H G) : makeN H = makeN G ∧ makeE H = makeE G ∧ Alike (makeH H) (makeH G) := by
  unfold makeN makeE makeH
  rw [h.most, h.len]
  refine ⟨rfl, rfl, ?_⟩
  split
  · exact h
  · exact ⟨rfl, h.props, by simp only [List.map_append, h.os]; rfl⟩
theorem alike_set {H G : He} (h : Alike H G) (o : Int) (s : ByteArray) (v : Vl) : setE H o s = setE G o s ∧ Alike (setH H o s v) (setH G o s v) := by
  unfold setE setH
  rcases h.cases o with ⟨a, b⟩ | ⟨x, y, a, b, c1, c2, c3⟩
  · rw [a, b]; exact ⟨rfl, h⟩
  · obtain ⟨i, rfl, _⟩ := getO_some a
    rw [a, b]
    dsimp only
    rw [c2, h.props, putO_succ, putO_succ, putO_succ, putO_succ]
    refine ⟨rfl, ?_⟩
    split
    · exact alike_put h i (by unfold core; dsimp only; rw [c1, c3])
    · split
      · exact h
      · exact alike_put (alike_next h _ _ s) i (by unfold core; dsimp only; rw [c1, c3])
theorem alike_del {H G : He} (h : Alike H G) (o : Int) (s : ByteArray) : Alike (delH H o s) (delH G o s) := by
  unfold delH
  rcases h.cases o with ⟨a, b⟩ | ⟨x, y, a, b, c1, c2, c3⟩
  · rw [a, b]; exact h
  · obtain ⟨i, rfl, _⟩ := getO_some a
    rw [a, b]
    dsimp only
    rw [c2, putO_succ, putO_succ]
    split
    · exact alike_put h i (by unfold core; dsimp only; rw [c1, c3])
    · exact h
theorem alike_proto {H G : He} (h : Alike H G) (o p : Int) : protoE H o p = protoE G o p ∧ Alike (protoS H o p) (protoS G o p) := by
  unfold protoE protoS
  have hon : onC H o (H.os.length + 1) p = onC G o (G.os.length + 1) p := by rw [h.len]; exact h.onC' o _ p
  rcases h.cases o with ⟨a, b⟩ | ⟨x, y, a, b, c1, c2, c3⟩
  · rw [a, b]; exact ⟨rfl, h⟩
  · obtain ⟨i, rfl, _⟩ := getO_some a
    rw [a, b]
    dsimp only
    rw [hon]
    simp only [h.none p]
    refine ⟨trivial, ?_⟩
    rw [putO_succ, putO_succ, putO_succ, putO_succ]
    split
    · exact h
    · split
      · exact h
      · split
        · split
          · exact alike_put h i (by unfold core; dsimp only; rw [c2, c3])
          · exact ⟨h.most, h.props, (alike_put (x := { x with pr := p.toNat, ep := x.ep + 1 }) (y := { y with pr := p.toNat, ep := y.ep + 1, sh := (moveP G.M G.L y.sh p).1 }) h i (by unfold core; dsimp only; rw [c2, c3])).os⟩
        · split
          · exact ⟨h.most, h.props, (alike_put (x := { x with pr := p.toNat, ep := x.ep + 1, sh := (moveP H.M H.L x.sh p).1 }) (y := { y with pr := p.toNat, ep := y.ep + 1 }) h i (by unfold core; dsimp only; rw [c2, c3])).os⟩
          · exact ⟨h.most, h.props, (alike_put (x := { x with pr := p.toNat, ep := x.ep + 1, sh := (moveP H.M H.L x.sh p).1 }) (y := { y with pr := p.toNat, ep := y.ep + 1, sh := (moveP G.M G.L y.sh p).1 }) h i (by unfold core; dsimp only; rw [c2, c3])).os⟩
theorem dump_core : ∀ (l m : List Ob) (k : Nat), l.map core = m.map core → dumpL k l = dumpL k m
  | [], [], _, _ => rfl
  | [], _ :: _, _, h => by simp at h
  | _ :: _, [], _, h => by simp at h
  | x :: l, y :: m, k, h => by
    simp only [List.map_cons, List.cons.injEq] at h
    have e := h.1
    unfold core at e
    injection e with a b
    injection b with b c
    rw [dumpL, dumpL, dump_core l m (k + 1) h.2]
    unfold obT
    rw [a, b]
theorem Alike.dump {H G : He} (h : Alike H G) : dumpT H = dumpT G := dump_core _ _ _ h.os

end Go.Proofs.YtimhgbcanmgajaaGreat
