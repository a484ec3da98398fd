/- A heap as text. -/
import Derived.Test.YtemidicgipebjaaGreatHpWf3
import Derived.Test.YtemidicgipebjaaGreatVPlain
import Derived.Test.YtemidicgipebjaaGreatDigPlain
namespace Go.Proofs.YtemidicgipebjaaGreat
set_option linter.unusedSimpArgs false
open Go.RowKit

def bys (s : ByteArray) : List UInt8 := s.data.toList
def entT (e : Ent) : List UInt8 := 32 :: bys e.1 ++ 58 :: printB e.2.1 e.2.2.1 (bys e.2.2.2)
def entsT (l : List Ent) : List UInt8 := l.flatMap entT
def obT (k : Nat) (x : Ob) : List UInt8 := (35 :: digs ((k + 1 : Nat) : Int)) ++ [32] ++ (35 :: digs (x.pr : Int)) ++ entsT x.l ++ [10]
def dumpL : Nat → List Ob → List UInt8
  | _, [] => []
  | k, x :: r => obT k x ++ dumpL (k + 1) r
def dumpT (H : He) : List UInt8 := dumpL 0 H.os
theorem dumpL_snoc : ∀ (l : List Ob) (k : Nat) (x : Ob), dumpL k (l ++ [x]) = dumpL k l ++ obT (k + l.length) x
  | [], k, x => by simp [dumpL]
  | y :: r, k, x => by
    rw [List.cons_append, dumpL, dumpL_snoc r (k + 1) x, dumpL, List.append_assoc, List.length_cons, show k + 1 + r.length = k + (r.length + 1) by omega]
theorem dump_take {H : He} {k : Nat} {x : Ob} (h : H.os[k]? = some x) : dumpL 0 (H.os.take (k + 1)) = dumpL 0 (H.os.take k) ++ obT k x := by
  rw [List.take_add_one, h, show (some x).toList = [x] from rfl, dumpL_snoc]
  have := lt_of_get h
  rw [List.length_take, show 0 + min k H.os.length = k by omega]
theorem ents_take {l : List Ent} {k : Nat} {e : Ent} (h : l[k]? = some e) : entsT (l.take (k + 1)) = entsT (l.take k) ++ entT e := by
  unfold entsT
  rw [List.take_add_one, h, show (some e).toList = [e] from rfl, List.flatMap_append]
  simp
/-- values that fit -/
def VFit (v : Vl) : Prop := I64 v.2.1 ∧ v.2.2.size ≤ 1000000
def LFit (l : List Ent) : Prop := ∀ e ∈ l, VFit e.2
def HFit (H : He) : Prop := ∀ (i : Nat) (x : Ob), H.os[i]? = some x → LFit x.l
theorem setL_mem : ∀ {l : List Ent} {s : ByteArray} {v : Vl} {e : Ent}, e ∈ setL l s v → e ∈ l ∨ e.2 = v
  | [], s, v, e, h => by
    simp [setL] at h
    exact .inr (by rw [h])
  | (t, u) :: r, s, v, e, h => by
    unfold setL at h
    split at h
    · simp at h
      rcases h with h | h
      · exact .inr (by rw [h])
      · exact .inl (by simp [h])
    · simp at h
      rcases h with h | h
      · exact .inl (by simp [h])
      · rcases setL_mem h with h | h
        · exact .inl (by simp [h])
        · exact .inr h
theorem lfit_set {l : List Ent} {s : ByteArray} {v : Vl} (h : LFit l) (hv : VFit v) : LFit (setL l s v) := fun e he => by
  rcases setL_mem he with h1 | h1
  · exact h e h1
  · rw [h1]; exact hv
theorem lfit_more {l : List Ent} {s : ByteArray} {v : Vl} (h : LFit l) (hv : VFit v) : LFit (l ++ [(s, v)]) := fun e he => by
  simp at he
  rcases he with h1 | h1
  · exact h e h1
  · rw [h1]; exact hv
theorem lfit_drop {l : List Ent} {s : ByteArray} (h : LFit l) : LFit (dropL l s) := fun e he => h e (List.mem_filter.1 he).1
theorem lfit_at {l : List Ent} {k : Nat} {v : Vl} (h : LFit l) (hv : VFit v) : LFit (setAt l k v) := fun e he => by
  unfold setAt at he
  split at he
  · rcases List.mem_or_eq_of_mem_set he with h1 | h1
    · exact h e h1
    · rw [h1]; exact hv
  · exact h e he
theorem hfit_put {H : He} {i : Nat} {x : Ob} (h : HFit H) (hx : LFit x.l) : HFit (putI H i x) := fun j y hj => by
  rcases set_get hj with ⟨_, rfl, _⟩ | ⟨_, hj⟩
  · exact hx
  · exact h j y hj
theorem hfit_os {H H' : He} (h : HFit H) (e : H'.os = H.os) : HFit H' := fun i x hi => h i x (by rw [← e]; exact hi)
theorem next_os (H : He) (id : Int) (s : ByteArray) : (nextH H id s).os = H.os := by unfold nextH; split <;> rfl
theorem hfit_new (a b k : Int) : HFit (newH a b k) := fun i x h => by simp [newH] at h
theorem hfit_make {H : He} (h : HFit H) : HFit (makeH H) := by
  unfold makeH
  split
  · exact h
  · intro i x hi
    rcases get_snoc hi with hi | ⟨_, rfl⟩
    · exact h i x hi
    · intro e he
      cases he
theorem hfit_at {H : He} {o : Int} {x : Ob} (h : HFit H) (hx : getO H o = some x) : LFit x.l := by
  obtain ⟨i, rfl, hi⟩ := getO_some hx
  exact h i x hi
theorem hfit_set {H : He} {o : Int} {s : ByteArray} {v : Vl} (h : HFit H) (hv : VFit v) : HFit (setH H o s v) := by
  unfold setH
  cases hg : getO H o with
  | none => exact h
  | some x =>
    have hx := hfit_at h hg
    obtain ⟨i, rfl, hi⟩ := getO_some hg
    dsimp only
    rw [putO_succ, putO_succ]
    split
    · exact hfit_put h (lfit_set hx hv)
    · split
      · exact h
      · exact hfit_put (hfit_os h (next_os _ _ _)) (lfit_more hx hv)
theorem hfit_del {H : He} {o : Int} {s : ByteArray} (h : HFit H) : HFit (delH H o s) := by
  unfold delH
  cases hg : getO H o with
  | none => exact h
  | some x =>
    have hx := hfit_at h hg
    obtain ⟨i, rfl, hi⟩ := getO_some hg
    dsimp only
    rw [putO_succ]
    split
    · exact hfit_put h (lfit_drop hx)
    · exact h
theorem hfit_proto {H : He} {o p : Int} (h : HFit H) : HFit (protoS H o p) := by
  unfold protoS
  cases hg : getO H o with
  | none => exact h
  | some x =>
    have hx := hfit_at h hg
    obtain ⟨i, rfl, hi⟩ := getO_some hg
    dsimp only
    rw [putO_succ, putO_succ]
    split
    · exact h
    · split
      · exact h
      · split
        · exact hfit_put h hx
        · exact hfit_put (hfit_os h rfl) hx
theorem hfit_putv {H : He} {o j : Int} {v : Vl} (h : HFit H) (hv : VFit v) : HFit (putH H o j v) := by
  unfold putH
  cases hg : getO H o with
  | none => exact h
  | some x =>
    have hx := hfit_at h hg
    obtain ⟨i, rfl, hi⟩ := getO_some hg
    dsimp only
    rw [putO_succ]
    split
    · exact h
    · exact hfit_put h (lfit_at hx hv)
theorem hfit_grow {H : He} {o to : Int} {v : Vl} (h : HFit H) (hv : VFit v) : HFit (growH H o to v) := by
  unfold growH
  cases hg : getO H o with
  | none => exact h
  | some x =>
    have hx := hfit_at h hg
    obtain ⟨i, rfl, hi⟩ := getO_some hg
    dsimp only
    rw [putO_succ]
    split
    · exact h
    · split
      · exact h
      · exact hfit_put h (lfit_more hx hv)

end Go.Proofs.YtemidicgipebjaaGreat
