/- What holds of a heap holds behind each call that changes it. -/
import Derived.Test.YtemidicgipebjaaGreatHpWf
namespace Go.Proofs.YtemidicgipebjaaGreat
set_option linter.unusedSimpArgs false
open Go.RowKit

theorem upN_congr {H H' : He} (h : ∀ o, protoH H' o = protoH H o) : ∀ (k : Nat) (o : Int), upN H' k o = upN H k o
  | 0, _ => rfl
  | k + 1, o => by rw [upN, upN, h o]; exact upN_congr h k _
theorem WfO.ext {K K' n n' : Nat} {N N' : List ByteArray} {L L' : List Sh} {x : Ob} (h : WfO K N L n x) (hK : K ≤ K') (hn : n ≤ n') (hm : ∀ (i : Nat) (s : Sh), L[i]? = some s → ∀ x ∈ s.2, 1 ≤ x ∧ x ≤ N.length) (sL : ∀ (i : Nat) (s : Sh), L[i]? = some s → L'[i]? = some s) (sN : ∀ (i : Nat) (s : ByteArray), N[i]? = some s → N'[i]? = some s) : WfO K' N' L' n' x := by
  refine ⟨h.ok, h.few, Nat.le_trans h.ep hK, Nat.le_trans h.pr hn, fun h0 => ?_⟩
  obtain ⟨ns, h1, h2⟩ := h.sh h0
  obtain ⟨i, e, hi⟩ := getS_some h1
  refine ⟨ns, by rw [e, getS_succ]; exact sL i _ hi, ?_⟩
  rw [h2]
  refine List.map_congr_left (fun y hy => ?_)
  have hb := hm i _ hi y hy
  obtain ⟨j, rfl⟩ : ∃ j : Nat, y = ((j + 1 : Nat) : Int) := ⟨(y - 1).toNat, by omega⟩
  have hj : j < N.length := by omega
  have h3 := List.getElem?_eq_getElem hj
  rw [textN_at h3, textN_at (sN j _ h3)]
/-- more shapes, more names -/
theorem WfH.ext {K K' : Nat} {H : He} {N' : List ByteArray} {L' : List Sh} (h : WfH K H) (hK : K ≤ K') (hs : WfS H.M L') (hd : N'.Nodup) (hl : N'.length ≤ K') (hz : ∀ s ∈ N', s.size ≤ 1000000) (hn : ∀ (i : Nat) (s : Sh), L'[i]? = some s → ∀ x ∈ s.2, 1 ≤ x ∧ x ≤ N'.length)
    (sL : ∀ (i : Nat) (s : Sh), H.L[i]? = some s → L'[i]? = some s) (sN : ∀ (i : Nat) (s : ByteArray), H.N[i]? = some s → N'[i]? = some s) : WfH K' { H with N := N', L := L' } :=
  ⟨hs, hd, hl, hz, hn, h.most, h.props, h.len, fun i x hi => (h.obs i x hi).ext hK (Nat.le_refl _) h.nums sL sN, fun o => by
    obtain ⟨k, hk⟩ := h.ends o
    exact ⟨k, by rw [upN_congr (H := H) (H' := { H with N := N', L := L' }) (fun _ => rfl) k o]; exact hk⟩⟩
theorem WfH.more {K K' : Nat} {H : He} (h : WfH K H) (hK : K ≤ K') : WfH K' H := h.ext hK h.wfs h.nd (Nat.le_trans h.nl hK) h.nsz h.nums (fun _ _ e => e) (fun _ _ e => e)
theorem of_nums {M n : Nat} {L : List Sh} {s : Sh} (hs : ∀ x ∈ s.2, 1 ≤ x ∧ x ≤ (n : Int)) (hn : ∀ (i : Nat) (s : Sh), L[i]? = some s → ∀ x ∈ s.2, 1 ≤ x ∧ x ≤ (n : Int)) : ∀ (i : Nat) (t : Sh), (ofL M L s)[i]? = some t → ∀ x ∈ t.2, 1 ≤ x ∧ x ≤ (n : Int) := by
  intro i t ht
  unfold ofL at ht
  split at ht
  · exact hn i t ht
  · split at ht
    · exact hn i t ht
    · rcases get_snoc ht with h | ⟨_, rfl⟩
      · exact hn i t h
      · exact hs
theorem add_nums {M n : Nat} {L : List Sh} {id x : Int} (hx : 1 ≤ x ∧ x ≤ (n : Int)) (hn : ∀ (i : Nat) (s : Sh), L[i]? = some s → ∀ x ∈ s.2, 1 ≤ x ∧ x ≤ (n : Int)) : ∀ (i : Nat) (t : Sh), (addL M L id x)[i]? = some t → ∀ x ∈ t.2, 1 ≤ x ∧ x ≤ (n : Int) := by
  unfold addL
  split
  · rename_i s hs
    obtain ⟨j, _, hj⟩ := getS_some hs
    split
    · exact hn
    · refine of_nums (fun y hy => ?_) hn
      simp at hy
      rcases hy with hy | rfl
      · exact hn j s hj y hy
      · exact hx
  · exact hn
theorem adds_nums {M n : Nat} : ∀ (xs : List Int) (q : Nat × List Sh), (∀ x ∈ xs, 1 ≤ x ∧ x ≤ (n : Int)) → (∀ (i : Nat) (s : Sh), q.2[i]? = some s → ∀ x ∈ s.2, 1 ≤ x ∧ x ≤ (n : Int)) → ∀ (i : Nat) (t : Sh), (addsP M xs q).2[i]? = some t → ∀ x ∈ t.2, 1 ≤ x ∧ x ≤ (n : Int)
  | [], _, _, h => h
  | x :: r, q, hx, h => adds_nums r _ (fun y hy => hx y (by simp [hy])) (add_nums (hx x (by simp)) h)
theorem root_nums {M n : Nat} {L : List Sh} {p : Int} (hn : ∀ (i : Nat) (s : Sh), L[i]? = some s → ∀ x ∈ s.2, 1 ≤ x ∧ x ≤ (n : Int)) : ∀ (i : Nat) (t : Sh), (rootL M L p)[i]? = some t → ∀ x ∈ t.2, 1 ≤ x ∧ x ≤ (n : Int) := by
  unfold rootL
  split
  · exact hn
  · exact of_nums (by simp) hn
theorem move_nums {M n : Nat} {L : List Sh} {id p : Int} (hn : ∀ (i : Nat) (s : Sh), L[i]? = some s → ∀ x ∈ s.2, 1 ≤ x ∧ x ≤ (n : Int)) : ∀ (i : Nat) (t : Sh), (moveP M L id p).2[i]? = some t → ∀ x ∈ t.2, 1 ≤ x ∧ x ≤ (n : Int) := by
  unfold moveP
  split
  · rename_i s hs
    obtain ⟨j, _, hj⟩ := getS_some hs
    exact adds_nums _ _ (hn j s hj) (root_nums hn)
  · exact hn
theorem next_wf {K : Nat} {H : He} (h : WfH K H) (hK : K ≤ 900000) (id : Int) (s : ByteArray) (hsz : s.size ≤ 1000000) : WfH (K + 1) (nextH H id s) := by
  unfold nextH
  cases hg : getS H.L id with
  | none => exact h.more (Nat.le_succ _)
  | some y =>
    have hat := ofT_at H.N s
    have hlen := ofT_len H.N s
    have hl := h.nl
    refine h.ext (Nat.le_succ _) (h.wfs.add (by unfold I64; omega)) (ofT_once h.nd) (by omega) (fun y hy => by unfold ofT at hy; split at hy; exact h.nsz y hy; simp at hy; rcases hy with hy | rfl; exact h.nsz y hy; exact hsz) (add_nums (by omega) (fun i t ht x hx => ?_)) (fun _ _ e => addL_stay e) (fun _ _ e => ofT_get e)
    have := h.nums i t ht x hx
    omega
/-- an object more -/
theorem make_wf {K : Nat} {H : He} (h : WfH K H) : WfH K (makeH H) := by
  unfold makeH
  by_cases hm : H.most ≤ H.os.length
  · rw [if_pos hm]; exact h
  · rw [if_neg hm]
    have hr := h.wfs.root (p := 0) (by unfold I64; omega)
    have e := h.ext (L' := rootL H.M H.L 0) (N' := H.N) (Nat.le_refl _) hr h.nd h.nl h.nsz (root_nums h.nums) (fun _ _ e => rootL_stay e) (fun _ _ e => e)
    refine ⟨hr, h.nd, h.nl, h.nsz, fun i t ht => e.nums i t ht, h.most, h.props, by simp; omega, fun i x hi => ?_, fun o => ?_⟩
    · rcases get_snoc hi with hi | ⟨_, rfl⟩
      · exact (e.obs i x hi).ext (Nat.le_refl _) (by simp) e.nums (fun _ _ e => e) (fun _ _ e => e)
      · refine ⟨okL_nil, by simp, Nat.zero_le _, Nat.zero_le _, fun h0 => ⟨[], ?_, rfl⟩⟩
        dsimp only at h0 ⊢
        unfold rootN rootL at *
        rw [if_neg (by omega)] at h0 ⊢
        rw [if_neg (by omega)]
        rcases of_spec (0, []) h.wfs with ⟨j, e1, e2⟩ | ⟨e1, _⟩
        · rw [e1, getS_succ, e2]
          rfl
        · exact absurd e1 h0
    · have hp : ∀ q : Int, protoH { H with L := rootL H.M H.L 0, os := H.os ++ [⟨0, [], 0, rootN H.M H.L 0⟩] } q = protoH H q := by
        intro q
        unfold protoH getO
        dsimp only
        by_cases hq : 1 ≤ q
        · rw [if_pos hq, if_pos hq]
          by_cases hl : (q - 1).toNat < H.os.length
          · rw [List.getElem?_append_left hl]
          · rw [List.getElem?_append_right (by omega), List.getElem?_eq_none_iff.2 (by omega : H.os.length ≤ (q - 1).toNat)]
            cases hz : (q - 1).toNat - H.os.length with
            | zero => rfl
            | succ z => rfl
        · rw [if_neg hq, if_neg hq]
      obtain ⟨k, hk⟩ := h.ends o
      exact ⟨k, by rw [upN_congr hp k o]; exact hk⟩
/-- an object is another one -/
def putI (H : He) (i : Nat) (x : Ob) : He := { H with os := H.os.set i x }
theorem putO_succ (H : He) (i : Nat) (x : Ob) : putO H ((i + 1 : Nat) : Int) x = putI H i x := by
  unfold putO putI
  rw [show (((i + 1 : Nat) : Int) - 1).toNat = i by omega]
theorem set_get {α : Type} {l : List α} {i j : Nat} {x y : α} (h : (l.set i x)[j]? = some y) : (j = i ∧ y = x ∧ i < l.length) ∨ (j ≠ i ∧ l[j]? = some y) := by
  by_cases e : j = i
  · subst e
    have hl : j < l.length := by have := lt_of_get h; simpa using this
    rw [List.getElem?_set_self hl] at h
    injection h with h
    exact .inl ⟨rfl, h.symm, hl⟩
  · rw [List.getElem?_set_ne (fun h => e h.symm)] at h
    exact .inr ⟨e, h⟩
theorem getO_put (H : He) {i : Nat} (x : Ob) (hi : i < H.os.length) (o : Int) : getO (putI H i x) o = if o = ((i + 1 : Nat) : Int) then some x else getO H o := by
  unfold getO putI
  dsimp only
  by_cases ho : 1 ≤ o
  · rw [if_pos ho, if_pos ho]
    by_cases e : o = ((i + 1 : Nat) : Int)
    · subst e
      rw [if_pos rfl, show (((i + 1 : Nat) : Int) - 1).toNat = i by omega, List.getElem?_set_self hi]
    · rw [if_neg e, List.getElem?_set_ne (by omega)]
  · rw [if_neg ho, if_neg ho, if_neg (by omega)]
theorem put_wf {K : Nat} {H : He} {i : Nat} {x' : Ob} (h : WfH K H) (hx : WfO K H.N H.L H.os.length x') (he : ∀ o, ∃ k, upN (putI H i x') k o < 1) : WfH K (putI H i x') := by
  refine ⟨h.wfs, h.nd, h.nl, h.nsz, h.nums, h.most, h.props, by unfold putI; simp; exact h.len, fun j y hj => ?_, he⟩
  have e : (putI H i x').os.length = H.os.length := by unfold putI; simp
  rw [e]
  rcases set_get hj with ⟨_, rfl, _⟩ | ⟨_, hj⟩
  · exact hx
  · exact h.obs j y hj
theorem put_ends {K : Nat} {H : He} {i : Nat} {x x' : Ob} (h : WfH K H) (hi : H.os[i]? = some x) (hp : x'.pr = x.pr) : ∀ o, ∃ k, upN (putI H i x') k o < 1 := by
  intro o
  obtain ⟨k, hk⟩ := h.ends o
  refine ⟨k, ?_⟩
  rw [upN_congr (H := H) (fun q => ?_) k o]
  · exact hk
  · unfold protoH
    rw [getO_put H x' (lt_of_get hi)]
    by_cases e : q = ((i + 1 : Nat) : Int)
    · rw [if_pos e, e, getO_succ, hi]
      exact hp
    · rw [if_neg e]
theorem on_not {K : Nat} {H : He} (h : WfH K H) {o : Int} (ho : 1 ≤ o) : ∀ (j : Nat) {p : Int}, onH H o p = false → upN H j p ≠ o
  | 0, p, hp, e => by
    have e' : p = o := e
    rw [onH_step h, if_neg (by omega), if_pos e'] at hp
    cases hp
  | j + 1, p, hp, e => by
    rw [onH_step h] at hp
    refine on_not h ho j (p := protoH H p) ?_ e
    by_cases h1 : p < 1
    · rw [protoH_out h1, onH_step h, if_pos (by omega)]
    · rw [if_neg h1] at hp
      by_cases h2 : p = o
      · rw [if_pos h2] at hp; cases hp
      · rw [if_neg h2] at hp; exact hp
theorem proto_ends {K : Nat} {H : He} {i p : Nat} {x x' : Ob} (h : WfH K H) (hi : H.os[i]? = some x) (hp : x'.pr = p) (hon : onH H ((i + 1 : Nat) : Int) (p : Int) = false) : ∀ o, ∃ k, upN (putI H i x') k o < 1 := by
  have hpr : ∀ q : Int, protoH (putI H i x') q = if q = ((i + 1 : Nat) : Int) then p else protoH H q := by
    intro q
    unfold protoH
    rw [getO_put H x' (lt_of_get hi)]
    by_cases e : q = ((i + 1 : Nat) : Int)
    · rw [if_pos e, if_pos e]; exact hp
    · rw [if_neg e, if_neg e]
  have far : ∀ (k : Nat) (q : Int), (∀ j, upN H j q ≠ ((i + 1 : Nat) : Int)) → upN (putI H i x') k q = upN H k q := by
    intro k
    induction k with
    | zero => intro q _; rfl
    | succ k ih =>
      intro q hq
      show upN (putI H i x') k (protoH (putI H i x') q) = upN H k (protoH H q)
      rw [hpr q, if_neg (show ¬ q = ((i + 1 : Nat) : Int) from hq 0)]
      exact ih _ (fun j => hq (j + 1))
  have hpe : ∃ k, upN (putI H i x') k (p : Int) < 1 := by
    obtain ⟨k, hk⟩ := h.ends (p : Int)
    exact ⟨k, by rw [far k _ (fun j => on_not h (by omega) j hon)]; exact hk⟩
  have all : ∀ (k : Nat) (q : Int), upN H k q < 1 → ∃ k', upN (putI H i x') k' q < 1 := by
    intro k
    induction k with
    | zero => intro q hq; exact ⟨0, hq⟩
    | succ k ih =>
      intro q hq
      by_cases e : q = ((i + 1 : Nat) : Int)
      · obtain ⟨k', hk'⟩ := hpe
        exact ⟨k' + 1, by rw [upN, hpr q, if_pos e]; exact hk'⟩
      · obtain ⟨k', hk'⟩ := ih (protoH H q) hq
        exact ⟨k' + 1, by rw [upN, hpr q, if_neg e]; exact hk'⟩
  intro o
  obtain ⟨k, hk⟩ := h.ends o
  exact all k o hk

end Go.Proofs.YtemidicgipebjaaGreat
