/- Arguments of flat types, and slices of such, opened. -/
import Derived.Test.YtemidicgipebjaaGreatProg
import Derived.Test.YtemidicgipebjaaGreatGround
import Derived.ProofKit
import Derived.OpenShut
import Derived.Deep.Slices
import Derived.Carry
import Derived.KernelRfl
namespace Go.Proofs.YtemidicgipebjaaGreat
open Go.ChangeShapes Go.WideShapes Go.ChangeAt Go.RowKit Go.Deep

theorem laidOutF : laidOutB Tryz.prog = true := by kernel_rfl

/-- leaves: an int, a string, a bool -/
abbrev Lf := Nat
abbrev Lf.i : Lf := 0
abbrev Lf.s : Lf := 1
abbrev Lf.b : Lf := 2
def Lf.ok : Lf → Value → Prop
  | 0, v => ∃ a : Int, v = .int .i64 a ∧ -9223372036854775808 ≤ a ∧ a ≤ 9223372036854775807
  | 1, v => ∃ t : ByteArray, v = .string t ∧ t.size ≤ maxLen
  | _, v => ∃ x : Bool, v = .bool x
def flatFs (P : Program) (g : TypeId → Option (List Lf)) : List Field → Nat → Option (List Lf)
  | [], _ => some []
  | f :: r, off => if f.offset = off then (match g f.type with
      | some a => if P.cellsOf f.type = a.length then (match flatFs P g r (off + a.length) with | some b => some (a ++ b) | none => none) else none
      | none => none) else none
/-- the leaves of a flat type -/
def flat (P : Program) : Nat → TypeId → Option (List Lf)
  | 0, _ => none
  | n + 1, t => match P.underlying t with
    | some .bool => some [.b]
    | some (.int .i64) => some [.i]
    | some .string => some [.s]
    | some (.struct fs) => flatFs P (flat P n) fs.toList 0
    | _ => none
/-- cells that fit leaves -/
def FitsF (K : List Lf) (cs : List Value) : Prop := ∀ (i : Nat) (k : Lf), K[i]? = some k → ∃ u, cs[i]? = some u ∧ k.ok u
theorem fits_cons {k : Lf} {K : List Lf} {cs : List Value} (h : FitsF (k :: K) cs) : ∃ u r, cs = u :: r ∧ k.ok u ∧ FitsF K r := by
  obtain ⟨u, hu, hk⟩ := h 0 k rfl
  cases cs with
  | nil => simp at hu
  | cons x r =>
    simp at hu
    subst hu
    exact ⟨x, r, rfl, hk, fun i k' h' => by simpa using h (i + 1) k' (by simpa using h')⟩
theorem flatFs_fits {P : Program} {g : TypeId → Option (List Lf)} {rd : TypeId → List Value → Prop} (hg : ∀ t K cs, g t = some K → rd t cs → FitsF K cs) {cs : List Value} :
    ∀ (fs : List Field) (off : Nat) (K : List Lf), flatFs P g fs off = some K → (∀ f ∈ fs, rd f.type ((cs.drop f.offset).take (P.cellsOf f.type))) → ∀ i k, K[i]? = some k → ∃ u, cs[off + i]? = some u ∧ k.ok u
  | [], off, K, h, _ => by
    unfold flatFs at h
    cases h
    intro i k hk
    simp at hk
  | f :: r, off, K, h, hr => by
    unfold flatFs at h
    split at h
    · rename_i ho
      split at h
      · rename_i a ha
        split at h
        · rename_i hl
          split at h
          · rename_i b hb
            cases h
            intro i k hk
            rcases Nat.lt_or_ge i a.length with hi | hi
            · rw [List.getElem?_append_left hi] at hk
              obtain ⟨u, hu, hok⟩ := hg _ _ _ ha (hr f (by simp)) i k hk
              refine ⟨u, ?_, hok⟩
              rw [List.getElem?_take] at hu
              split at hu
              · rw [List.getElem?_drop, ho] at hu; exact hu
              · cases hu
            · rw [List.getElem?_append_right hi] at hk
              obtain ⟨u, hu, hok⟩ := flatFs_fits hg r _ b hb (fun f hf => hr f (by simp [hf])) _ k hk
              exact ⟨u, by rw [← hu]; congr 1; omega, hok⟩
          · cases h
        · cases h
      · cases h
    · cases h
theorem flat_fits {H : Type} {enc : TypeId × Value → H} {P : Program} {w : World} {base : Nat} {sp : Nat → Bool} {held : Bool} :
    ∀ (n : Nat) (t : TypeId) (K : List Lf) (cs : List Value) (fuel : Nat) (x : DataW H × List MemPlace), flat P n t = some K → DataW.trod enc P w base sp held fuel t cs = some x → FitsF K cs
  | 0, t, K, cs, fuel, x, h, _ => by cases h
  | n + 1, t, K, cs, fuel, x, h, hx => by
    unfold flat at h
    split at h
    · rename_i hu
      cases h
      obtain ⟨b, rfl, _⟩ := DataW.trod_bool hu hx
      intro i k hk
      match i with
      | 0 => simp at hk; subst hk; exact ⟨_, rfl, b, rfl⟩
      | i + 1 => simp at hk
    · rename_i hu
      cases h
      obtain ⟨a, rfl, _, wf⟩ := DataW.trod_int hu hx
      have bd := bounds_i64 wf
      intro i k hk
      match i with
      | 0 => simp at hk; subst hk; exact ⟨_, rfl, a, rfl, bd.1, bd.2⟩
      | i + 1 => simp at hk
    · rename_i hu
      cases h
      obtain ⟨s, rfl, _, wf⟩ := DataW.trod_string hu hx
      intro i k hk
      match i with
      | 0 => simp at hk; subst hk; exact ⟨_, rfl, s, rfl, wf⟩
      | i + 1 => simp at hk
    · rename_i fs hu
      obtain ⟨xs, m, _, _, _, hl, hf⟩ := DataW.trod_struct hu hx
      have := flatFs_fits (P := P) (g := flat P n) (rd := fun t cs => ∃ fuel x, DataW.trod enc P w base sp held fuel t cs = some x) (fun t K cs h1 ⟨fu, y, h2⟩ => flat_fits n t K cs fu y h1 h2) (cs := cs) fs.toList 0 K h (fun f hfm => by
        obtain ⟨i, hi⟩ := List.getElem?_of_mem hfm
        have hi' : fs[i]? = some f := by simpa using hi
        have hlt : i < fs.size := (Array.getElem?_eq_some_iff.1 hi').1
        refine ⟨m, xs[i]'(by omega), ?_⟩
        rw [hf i f hi', List.getElem?_eq_getElem (by omega)])
      intro i k hk
      simpa using this i k hk
    · cases h
set_option maxRecDepth 100000 in
/-- a struct that is flat -/
theorem open_flat {H : Type} {enc : TypeId × Value → H} {W : World} {b0 : Nat} {r : Reach} {v : Value} {d : DataW H} {p : List MemPlace} {T : TypeId} {fs : Array Field} {K : List Lf}
    (hT : Tryz.prog.underlying T = some (.struct fs)) (hK : flat Tryz.prog 5 T = some K) (hv : Value.okWide Tryz.prog W r b0 T v) (h : DataW.Trod enc Tryz.prog W 0 (fun _ => true) true T v d p) : ∃ cs : List Value, v = .agg cs.toArray ∧ cs.length = Tryz.prog.cellsOf T ∧ FitsF K cs := by
  obtain ⟨cs, rfl, hs⟩ := okWide_struct hT hv
  obtain ⟨fuel, hf⟩ := h
  exact ⟨cs.toList, by simp, by simpa using hs, flat_fits 5 T K _ fuel _ hK (by simpa [Value.cells] using hf)⟩
/-- rows of z cells each, at an address -/
def RowsAt (b off z : Nat) (l : List (List Value)) (w : World) : Prop := ∀ i r, l[i]? = some r → ∀ j u, r[j]? = some u → w.cell? ⟨b, off + i * z + j, none⟩ = some u
/-- an argument that is a slice of such rows -/
def RowsArg (z : Nat) (v : Value) (l : List (List Value)) (w : World) : Prop :=
  (∃ ao cap, v = .slice ao 0 cap ∧ l = []) ∨ ∃ b off cap, v = .slice (some ⟨b, off, none⟩) l.length cap ∧ b < w.heap.size ∧ RowsAt b off z l w
theorem rowsArg_on {z : Nat} {v : Value} {l : List (List Value)} {a c : World} (h : RowsArg z v l a) (k : Below a.heap.size a c) : RowsArg z v l c := by
  rcases h with h | ⟨b, off, cap, h1, h2, h3⟩
  · exact .inl h
  · exact .inr ⟨b, off, cap, h1, Nat.lt_of_lt_of_le h2 k.size, fun i r hi j u hj => (k.cell (p := ⟨b, off + i * z + j, none⟩) h2).trans (h3 i r hi j u hj)⟩
set_option maxRecDepth 100000 in
theorem open_flats {H : Type} {enc : TypeId × Value → H} {W : World} {b0 : Nat} {r : Reach} {v : Value} {d : DataW H} {p : List MemPlace} {S T : TypeId} {K : List Lf} {z : Nat}
    (hS : Tryz.prog.underlying S = some (.slice T)) (hK : flat Tryz.prog 5 T = some K) (hz : Tryz.prog.cellsOf T = z) (hzp : 0 < z) (hv : Value.okWide Tryz.prog W r b0 S v) (h : DataW.Trod enc Tryz.prog W 0 (fun _ => true) true S v d p) :
    ∃ l : List (List Value), RowsArg z v l W ∧ ∀ r ∈ l, r.length = z ∧ FitsF K r := by
  obtain ⟨a0, len, cap, rfl⟩ := okWide_slice hS hv
  obtain ⟨fuel, hf⟩ := h
  rcases open_slice hS hf with ⟨hcs, _⟩ | ⟨a, len', cap', m, n, D, Pl, hcs, _, hl, hm, hmm, _, hx⟩
  · simp [Value.cells] at hcs
    obtain ⟨rfl, rfl, rfl⟩ := hcs
    exact ⟨[], .inl ⟨none, 0, rfl, rfl⟩, fun t h => by cases h⟩
  · simp [Value.cells] at hcs
    obtain ⟨rfl, rfl, rfl⟩ := hcs
    simp only [if_true] at hmm
    have each : ∀ i, i < len → ∃ r : List Value, (r.length = z ∧ FitsF K r) ∧ ∀ j u, r[j]? = some u → W.cell? (a.add (i * z + j)) = some u := by
      intro i hi
      obtain ⟨cs', h1, h2⟩ := hx i (by omega)
      rw [hz] at h1
      obtain ⟨_, hlen, hcell⟩ := World.cells?_some h1
      refine ⟨cs', ⟨hlen, flat_fits 5 T K cs' _ _ hK h2⟩, fun j u hj => ?_⟩
      have hjl : j < cs'.length := (List.getElem?_eq_some_iff.1 hj).1
      have e0 := hcell j (by omega)
      rw [add_add] at e0
      rw [e0]; exact hj
    obtain ⟨f, hf'⟩ := @choose_lt (List Value) ⟨[]⟩ _ _ each
    refine ⟨(List.range len).map f, ?_, ?_⟩
    · by_cases h0 : len = 0
      · subst h0
        exact .inl ⟨_, _, rfl, rfl⟩
      · obtain ⟨b, off, spot⟩ := a
        have hr0 := hf' 0 (by omega)
        obtain ⟨u0, hu0⟩ : ∃ u, (f 0)[0]? = some u := ⟨(f 0)[0]'(by omega), List.getElem?_eq_getElem (by omega)⟩
        have hc0 := hr0.2 0 u0 hu0
        have hspot : spot = none := by simpa [Addr.add] using World.cell?_spot hc0
        subst hspot
        have ap : ∀ j, (⟨b, off, none⟩ : Addr).add j = ⟨b, off + j, none⟩ := fun j => by unfold Addr.add; split <;> simp_all
        refine .inr ⟨b, off, cap, by simp, ?_, ?_⟩
        · rw [ap] at hc0
          rcases Nat.lt_or_ge b W.heap.size with h | h
          · exact h
          · simp [World.cell?, Array.getElem?_eq_none h] at hc0
        · intro i r hi j u hj
          have hi' : i < len := by simpa using (List.getElem?_eq_some_iff.1 hi).1
          have hri : r = f i := by
            have := (List.getElem?_eq_some_iff.1 hi).2
            simpa using this.symm
          subst hri
          have hc := (hf' i hi').2 j u hj
          rw [ap] at hc
          simpa [Nat.add_assoc] using hc
    · intro r hr
      obtain ⟨i, hi, rfl⟩ := List.mem_map.1 hr
      exact (hf' i (List.mem_range.1 hi)).1
theorem rows_map {α : Type} {f : α → List Value} {P : α → Prop} : ∀ {l : List (List Value)}, (∀ r ∈ l, ∃ x, r = f x ∧ P x) → ∃ xs : List α, l = xs.map f ∧ ∀ x ∈ xs, P x
  | [], _ => ⟨[], rfl, fun _ h => by cases h⟩
  | r :: l, h => by
    obtain ⟨x, rfl, hx⟩ := h r (by simp)
    obtain ⟨xs, rfl, hxs⟩ := rows_map (l := l) (fun r hr => h r (by simp [hr]))
    exact ⟨x :: xs, rfl, fun y hy => by
      rcases List.mem_cons.1 hy with rfl | hy
      · exact hx
      · exact hxs y hy⟩

end Go.Proofs.YtemidicgipebjaaGreat
