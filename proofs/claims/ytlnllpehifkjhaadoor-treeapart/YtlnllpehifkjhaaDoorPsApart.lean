/- Unlike programs have unlike texts. -/
import Derived.Test.YtlnllpehifkjhaaDoorPsBack2
namespace Go.Proofs.YtlnllpehifkjhaaDoor
open Go.RowKit

theorem bytes_ext {a b : ByteArray} (h : a.data.toList = b.data.toList) : a = b := by
  apply ByteArray.ext
  exact Array.toList_inj.1 h
theorem names_eq {a b : List ByteArray} (h : namesB a b = true) : a = b := by
  unfold namesB at h
  rw [beq_iff_eq] at h
  have inj : ∀ x y : ByteArray, x.data.toList = y.data.toList → x = y := fun _ _ => bytes_ext
  induction a generalizing b with
  | nil => cases b with
    | nil => rfl
    | cons => cases h
  | cons x r ih =>
    cases b with
    | nil => cases h
    | cons y q =>
      simp only [List.map_cons, List.cons.injEq] at h
      rw [inj _ _ h.1, ih h.2]
mutual
theorem same_z : ∀ (a b : Nd), sameN a b = true ↔ zN a = zN b
  | .mk k o n s ns ks p, .mk k' o' n' s' ns' ks' p' => by
    rw [sameN, zN, zN]
    simp only [Bool.and_eq_true, beq_iff_eq, Nd.mk.injEq, and_true]
    constructor
    · rintro ⟨h1, h2, h3, h4, h5, h6⟩
      exact ⟨h1, h2, h3, bytes_ext h4, names_eq h5, (sameL_z ks ks').1 h6⟩
    · rintro ⟨h1, h2, h3, h4, h5, h6⟩
      exact ⟨h1, h2, h3, by rw [h4], by rw [h5]; simp [namesB], (sameL_z ks ks').2 h6⟩
theorem sameL_z : ∀ (a b : List Nd), sameL a b = true ↔ zL a = zL b
  | [], [] => by simp [sameL, zL]
  | x :: r, y :: q => by
    rw [sameL, zL, zL, Bool.and_eq_true, List.cons.injEq]
    exact and_congr (same_z x y) (sameL_z r q)
  | [], y :: q => by simp [sameL, zL]
  | x :: r, [] => by simp [sameL, zL]
end
/-- places play no part in a text -/
theorem textN_z (t : Nd) : textN (zN t) = textN t := by
  refine Nd.ind (P := fun t => textN (zN t) = textN t) ?_ t
  intro k o n s ns ks p ih
  have e : (ks.map zN).map textN = ks.map textN := by rw [List.map_map]; exact List.map_congr_left ih
  rw [zN_mk, textN_mk, textN_mk, e]
  simp
theorem print_z (t : Nd) : printT (zN t) = printT t := by
  unfold printT
  rw [zN_kids, List.map_map]
  congr 1
  exact List.map_congr_left fun x _ => textN_z x
theorem bare_zt {a b : Tok} (h : bare a = bare b) : zt a = zt b := by
  unfold bare at h
  simp only [Prod.mk.injEq] at h
  unfold zt
  rw [h.1, h.2.1, h.2.2]
theorem bare_map : ∀ {a b : List Tok}, a.map bare = b.map bare → a.map zt = b.map zt
  | [], [], _ => rfl
  | x :: r, y :: q, h => by
    simp only [List.map_cons, List.cons.injEq] at h ⊢
    exact ⟨bare_zt h.1, bare_map h.2⟩
  | [], y :: q, h => by cases h
  | x :: r, [], h => by cases h
theorem Ev.one {α : Type} {g : Nat → α} {a b : α} (h1 : Ev g a) (h2 : Ev g b) : a = b := by
  obtain ⟨f1, h1⟩ := h1
  obtain ⟨f2, h2⟩ := h2
  rw [← h1 (max f1 f2) (by omega), h2 (max f1 f2) (by omega)]
theorem whole_z (f : Nat) (l : List Tok) : (pWhole f true l).z = pWhole f true (l.map zt) := by
  unfold pWhole
  refine PR.bind_z (PL.bind_z ((natZ f).stmts [] l) fun _ ks l => okR (zK _ _)) fun e b l => ?_
  rw [kind_z]
  exact ite_z rfl rfl
theorem zz (t : Nd) : zN (zN t) = zN t := by
  refine Nd.ind (P := fun t => zN (zN t) = zN t) ?_ t
  intro k o n s ns ks p ih
  have e : (ks.map zN).map zN = ks.map zN := by rw [List.map_map]; exact List.map_congr_left ih
  rw [zN_mk, zN_mk, e]
/-- right programs are alike just if their texts are -/
theorem apart_print {a b : Nd} (ha : rightN a 3 = true) (hb : rightN b 3 = true) : printT a = printT b ↔ sameN a b = true := by
  constructor
  · intro h
    have hl : laid (printC a) = laid (printC b) := by rw [print_laid, print_laid, h]
    have ht := toks_inj _ _ _ (Nat.le_refl _) (fine_print ha) (fine_print hb) hl
    have hz := bare_map ht
    have h1 := back_print ha
    have h2 := back_print hb
    have z1 : Ev (fun f => pWhole f true ((toksC (printC a) ++ [endT]).map zt)) (.ok (zN a) false [endT]) := by
      obtain ⟨f0, h0⟩ := h1
      exact ⟨f0, fun f hf => by show pWhole f true _ = _; rw [← whole_z]; have := h0 f hf; simp only at this; rw [this]; show PR.ok _ _ _ = _; rw [zz]; rfl⟩
    have z2 : Ev (fun f => pWhole f true ((toksC (printC b) ++ [endT]).map zt)) (.ok (zN b) false [endT]) := by
      obtain ⟨f0, h0⟩ := h2
      exact ⟨f0, fun f hf => by show pWhole f true _ = _; rw [← whole_z]; have := h0 f hf; simp only at this; rw [this]; show PR.ok _ _ _ = _; rw [zz]; rfl⟩
    rw [List.map_append, hz, ← List.map_append] at z1
    have := z1.one z2
    injection this with e1 _ _
    exact (same_z a b).2 e1
  · intro h
    have := (same_z a b).1 h
    rw [← print_z a, ← print_z b, this]

end Go.Proofs.YtlnllpehifkjhaaDoor
