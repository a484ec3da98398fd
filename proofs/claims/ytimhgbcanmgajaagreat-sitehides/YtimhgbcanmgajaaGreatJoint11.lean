/- What becomes of a shape that is moved. What holds of a heap holds behind each call. What holds of a heap holds behind each call that changes it. -/
import Derived.Test.YtimhgbcanmgajaaGreatJoint10
import Derived.Test.YtimhgbcanmgajaaGreatHpPlain
namespace Go.Proofs.YtimhgbcanmgajaaGreat
open Go.RowKit

theorem of_spec {M : Nat} {L : List Sh} (s : Sh) (h : WfS M L) : (∃ i : Nat, ofN M L s = i + 1 ∧ (ofL M L s)[i]? = some s) ∨ (ofN M L s = 0 ∧ ofL M L s = L ∧ L.length = M) := by
  unfold ofN ofL
  cases ha : atS L s with
  | some i => exact .inl ⟨i, rfl, atS_at ha⟩
  | none =>
    by_cases hl : M ≤ L.length
    · exact .inr ⟨by simp [hl], by simp [hl], by have := h.len; omega⟩
    · exact .inl ⟨L.length, by simp [hl], by simp [hl]⟩
theorem addsP_zero (M : Nat) : ∀ (xs : List Int) (L : List Sh), addsP M xs (0, L) = (0, L)
  | [], _ => rfl
  | x :: r, L => by
    rw [addsP, show addN M (0, L).2 ((0, L) : Nat × List Sh).1 x = 0 from by unfold addN; rw [getS_out (.inl (by simp))], show addL M ((0, L) : Nat × List Sh).2 ((0, L) : Nat × List Sh).1 x = L from by unfold addL; rw [getS_out (.inl (by simp))]]
    exact addsP_zero M r L
theorem adds_spec {M : Nat} {p : Int} : ∀ (xs pre : List Int) (q : Nat × List Sh) (i : Nat), WfS M q.2 → q.1 = i + 1 → q.2[i]? = some (p, pre) → (pre ++ xs).length ≤ 12 → (pre ++ xs).Nodup → (∀ x ∈ xs, I64 x) →
    WfS M (addsP M xs q).2 ∧ ((∃ i : Nat, (addsP M xs q).1 = i + 1 ∧ (addsP M xs q).2[i]? = some (p, pre ++ xs)) ∨ ((addsP M xs q).1 = 0 ∧ (addsP M xs q).2.length = M))
  | [], pre, q, i, hw, h1, h2, _, _, _ => ⟨hw, .inl ⟨i, h1, by simpa [addsP] using h2⟩⟩
  | x :: r, pre, (n, L), i, hw, h1, h2, h3, h4, h5 => by
    dsimp only at h1 h2 hw
    subst h1
    have hn : ¬ (12 ≤ pre.length ∨ x ∈ pre) := by
      intro e
      rcases e with e | e
      · simp at h3; omega
      · rw [List.nodup_append] at h4
        exact h4.2.2 x e x (by simp) rfl
    have hw' := hw.add (id := ((i + 1 : Nat) : Int)) (x := x) (h5 x (by simp))
    rw [addsP, addN_at x h2]
    rw [addL_at x h2] at hw' ⊢
    dsimp only at hw' ⊢
    rw [if_neg hn] at hw' ⊢
    rw [if_neg hn]
    rcases of_spec (p, pre ++ [x]) hw with ⟨j, e1, e2⟩ | ⟨e1, e2, e3⟩
    · have := adds_spec r (pre ++ [x]) (ofN M L (p, pre ++ [x]), ofL M L (p, pre ++ [x])) j hw' e1 e2 (by simpa using h3) (by simpa using h4) (fun y hy => h5 y (by simp [hy]))
      simpa using this
    · rw [e1, e2, addsP_zero]
      exact ⟨hw, .inr ⟨rfl, e3⟩⟩
theorem WfS.prefix {M : Nat} {L : List Sh} (h : WfS M L) {p : Int} : ∀ (n : Nat) (a b : List Int) (j : Nat), b.length = n → L[j]? = some (p, a ++ b) → ∃ i : Nat, L[i]? = some (p, a)
  | 0, a, b, j, hb, hj => by
    have : b = [] := List.length_eq_zero_iff.1 hb
    subst this
    exact ⟨j, by simpa using hj⟩
  | n + 1, a, b, j, hb, hj => by
    rcases List.eq_nil_or_concat b with rfl | ⟨b', x, rfl⟩
    · simp at hb
    · rw [List.concat_eq_append, ← List.append_assoc] at hj
      obtain ⟨i, _, hi⟩ := h.up j p (a ++ b') x hj
      exact h.prefix n a b' i (by simpa using hb) hi
theorem adds_there {M : Nat} {p : Int} : ∀ (xs pre : List Int) (L : List Sh) (i j : Nat), WfS M L → L[i]? = some (p, pre) → L[j]? = some (p, pre ++ xs) → addsP M xs (i + 1, L) = (j + 1, L)
  | [], pre, L, i, j, hw, h2, h3 => by
    rw [List.append_nil] at h3
    rw [hw.once i j _ h2 h3]
    rfl
  | x :: r, pre, L, i, j, hw, h2, h3 => by
    have h3' : L[j]? = some (p, (pre ++ [x]) ++ r) := by simpa using h3
    obtain ⟨k, hk⟩ := hw.prefix _ (pre ++ [x]) r j rfl h3'
    have hf := hw.few k _ hk
    have hd := hw.names k _ hk
    have hn : ¬ (12 ≤ pre.length ∨ x ∈ pre) := by
      intro e
      rcases e with e | e
      · simp at hf; omega
      · simp only [List.nodup_append] at hd
        exact hd.2.2 x e x (by simp) rfl
    rw [addsP]
    dsimp only
    rw [addN_at x h2, addL_at x h2]
    dsimp only
    rw [if_neg hn, if_neg hn]
    rw [show ofN M L (p, pre ++ [x]) = k + 1 from by unfold ofN; rw [hw.at' hk], show ofL M L (p, pre ++ [x]) = L from by unfold ofL; rw [hw.at' hk]; rfl]
    exact adds_there r (pre ++ [x]) L k j hw hk h3'
/-- a shape that was moved, or there was no room -/
theorem move_spec {M : Nat} {L : List Sh} {i : Nat} {s : Sh} {p : Int} (h : WfS M L) (hi : L[i]? = some s) (hp : I64 p) :
    WfS M (moveP M L ((i + 1 : Nat) : Int) p).2 ∧ ((∃ j : Nat, (moveP M L ((i + 1 : Nat) : Int) p).1 = j + 1 ∧ (moveP M L ((i + 1 : Nat) : Int) p).2[j]? = some (p, s.2)) ∨ ((moveP M L ((i + 1 : Nat) : Int) p).1 = 0 ∧ (p < 0 ∨ (moveP M L ((i + 1 : Nat) : Int) p).2.length = M))) := by
  unfold moveP
  rw [getS_succ, hi]
  dsimp only
  have hw := h.root hp
  unfold rootN rootL at *
  by_cases hn : p < 0
  · rw [if_pos hn, if_pos hn, addsP_zero]
    exact ⟨h, .inr ⟨rfl, .inl hn⟩⟩
  · rw [if_neg hn] at hw ⊢
    rw [if_neg hn]
    rcases of_spec (p, []) h with ⟨j, e1, e2⟩ | ⟨e1, e2, e3⟩
    · have := adds_spec s.2 [] (ofN M L (p, []), ofL M L (p, [])) j hw e1 e2 (by simpa using h.few i s hi) (by simpa using h.names i s hi) (h.fits i s hi)
      rw [List.nil_append] at this
      refine ⟨this.1, ?_⟩
      rcases this.2 with h1 | ⟨h1, h2⟩
      · exact .inl h1
      · exact .inr ⟨h1, .inr h2⟩
    · rw [e1, e2, addsP_zero]
      exact ⟨h, .inr ⟨rfl, .inr e3⟩⟩
/-- a shape that is there already -/
theorem move_there {M : Nat} {L : List Sh} {i j : Nat} {s : Sh} {p : Int} (h : WfS M L) (hi : L[i]? = some s) (hj : L[j]? = some (p, s.2)) (hp : 0 ≤ p) : moveP M L ((i + 1 : Nat) : Int) p = (j + 1, L) := by
  unfold moveP
  rw [getS_succ, hi]
  dsimp only
  obtain ⟨k, hk⟩ := h.prefix _ [] s.2 j rfl (by simpa using hj)
  unfold rootN rootL
  rw [if_neg (by omega), if_neg (by omega)]
  rw [show ofN M L (p, []) = k + 1 from by unfold ofN; rw [h.at' hk], show ofL M L (p, []) = L from by unfold ofL; rw [h.at' hk]; rfl]
  exact adds_there s.2 [] L k j h hk (by simpa using hj)

end Go.Proofs.YtimhgbcanmgajaaGreat

namespace Go.Proofs.YtimhgbcanmgajaaGreat
set_option linter.unusedSimpArgs false
open Go.RowKit

theorem fewer : ∀ (n : Nat) (l : List Int), l.Nodup → (∀ x ∈ l, 1 ≤ x ∧ x ≤ n) → l.length ≤ n
  | 0, l, _, h => by
    cases l with
    | nil => simp
    | cons x r => have := h x (by simp); omega
  | n + 1, l, hd, h => by
    by_cases hm : ((n + 1 : Nat) : Int) ∈ l
    · have h1 := fewer n (l.erase ((n + 1 : Nat) : Int)) (hd.erase _) (fun x hx => by
        have h2 := h x (List.mem_of_mem_erase hx)
        have h3 : x ≠ ((n + 1 : Nat) : Int) := fun e => by
          subst e
          exact (List.Nodup.mem_erase_iff hd).1 hx |>.1 rfl
        omega)
      rw [List.length_erase_of_mem hm] at h1
      omega
    · have h1 := fewer n l hd (fun x hx => by
        have h2 := h x hx
        have h3 : x ≠ ((n + 1 : Nat) : Int) := fun e => hm (e ▸ hx)
        omega)
      omega
theorem upN_add (H : He) : ∀ (b a : Nat) (o : Int), upN H (a + b) o = upN H a (upN H b o)
  | 0, _, _ => rfl
  | b + 1, a, o => by
    show upN H (a + b + 1) o = _
    rw [upN, upN_add H b a]
    rfl
theorem protoH_out {H : He} {o : Int} (h : o < 1) : protoH H o = 0 := by unfold protoH; rw [getO_out (.inl h)]
theorem upN_low {H : He} : ∀ (k : Nat) {o : Int}, o < 1 → upN H k o < 1
  | 0, _, h => h
  | k + 1, o, h => by rw [upN, protoH_out h]; exact upN_low k (by omega)
theorem upN_more {H : He} {k m : Nat} {o : Int} (h : upN H k o < 1) (hm : k ≤ m) : upN H m o < 1 := by
  obtain ⟨j, rfl⟩ := Nat.le.dest hm
  rw [Nat.add_comm, upN_add]
  exact upN_low j h
theorem least_up {H : He} {o : Int} : ∀ (k : Nat), upN H k o < 1 → ∃ m, upN H m o < 1 ∧ ∀ j, j < m → ¬ upN H j o < 1
  | 0, h => ⟨0, h, fun j hj => absurd hj (Nat.not_lt_zero _)⟩
  | k + 1, h => by
    by_cases h1 : upN H k o < 1
    · exact least_up k h1
    · refine ⟨k + 1, h, fun j hj hj1 => h1 (upN_more hj1 (by omega))⟩
theorem protoH_le {K : Nat} {H : He} (h : WfH K H) (o : Int) : protoH H o ≤ H.os.length := by
  unfold protoH
  cases hg : getO H o with
  | none => exact Nat.zero_le _
  | some x => exact (h.at' hg).pr
/-- a chain has at most as many as there are objects -/
theorem WfH.within {K : Nat} {H : He} (h : WfH K H) (o : Int) : upN H (H.os.length + 1) o < 1 := by
  obtain ⟨k, hk⟩ := h.ends o
  obtain ⟨m, hm, hl⟩ := least_up k hk
  refine upN_more hm ?_
  have hd : ((List.range (m - 1)).map (fun i => upN H (i + 1) o)).Nodup := by
    unfold List.Nodup
    rw [List.pairwise_map]
    refine List.Pairwise.imp_of_mem ?_ List.pairwise_lt_range
    intro a b ha hb hab e
    have hb' := List.mem_range.1 hb
    have h1 : upN H (m - (b + 1) + (a + 1)) o < 1 := by
      rw [upN_add, e, ← upN_add, show m - (b + 1) + (b + 1) = m by omega]
      exact hm
    exact hl _ (by omega) h1
  have := fewer H.os.length _ hd (fun x hx => by
    obtain ⟨i, hi, rfl⟩ := List.mem_map.1 hx
    have hi' := List.mem_range.1 hi
    refine ⟨by have := hl (i + 1) (by omega); omega, ?_⟩
    rw [Nat.add_comm i 1, upN_add]
    show ((protoH H (upN H i o) : Nat) : Int) ≤ _
    have := protoH_le h (upN H i o)
    omega)
  simp at this
  omega
/-- how far it is to the end -/
def rankF (H : He) : Nat → Int → Nat
  | 0, _ => 0
  | n + 1, o => if o < 1 then 0 else rankF H n (protoH H o) + 1
theorem rankF_more {H : He} : ∀ (n : Nat) {o : Int}, upN H n o < 1 → rankF H (n + 1) o = rankF H n o
  | 0, o, h => by
    have : o < 1 := h
    show (if o < 1 then 0 else rankF H 0 (protoH H o) + 1) = 0
    rw [if_pos this]
  | n + 1, o, h => by
    show (if o < 1 then 0 else rankF H (n + 1) (protoH H o) + 1) = (if o < 1 then 0 else rankF H n (protoH H o) + 1)
    rw [rankF_more n (o := (protoH H o : Int)) h]
def rankH (H : He) (o : Int) : Nat := rankF H (H.os.length + 1) o
theorem rank_lt {K : Nat} {H : He} (h : WfH K H) {o : Int} (ho : 1 ≤ o) : rankH H (protoH H o) < rankH H o := by
  unfold rankH
  have h1 := rankF_more (H := H) (H.os.length + 1) (h.within o)
  rw [← h1]
  show rankF H (H.os.length + 1) (protoH H o) < (if o < 1 then 0 else rankF H (H.os.length + 1) (protoH H o) + 1)
  rw [if_neg (by omega)]
  exact Nat.lt_succ_self _
/-- fuel beyond the end -/
theorem getF_more {H : He} {s : ByteArray} : ∀ (n : Nat) {o : Int}, upN H n o < 1 → ∀ m, n ≤ m → getF H s m o = getF H s n o
  | 0, o, h, m, _ => by
    have h0 : o < 1 := h
    have : ∀ (m : Nat) (o : Int), o < 1 → getF H s m o = vl0 := by
      intro m
      induction m with
      | zero => intro o _; rfl
      | succ m ih =>
        intro o ho
        rw [getF, show ownH H o s = none by unfold ownH; rw [getO_out (.inl ho)]]
        exact ih _ (by rw [protoH_out ho]; omega)
    rw [this m o h0]
    rfl
  | n + 1, o, h, 0, hm => absurd hm (by omega)
  | n + 1, o, h, m + 1, hm => by
    show (match ownH H o s with | some v => v | none => getF H s m (protoH H o)) = (match ownH H o s with | some v => v | none => getF H s n (protoH H o))
    rw [getF_more n (o := (protoH H o : Int)) h m (by omega)]
theorem gotH_step {K : Nat} {H : He} (h : WfH K H) (o : Int) (s : ByteArray) : gotH H o s = match ownH H o s with | some v => v | none => gotH H (protoH H o) s := by
  unfold gotH
  rw [← getF_more (H.os.length + 1) (h.within o) (H.os.length + 1 + 1) (by omega)]
  show (match ownH H o s with | some v => v | none => getF H s (H.os.length + 1) (protoH H o)) = _
  cases ownH H o s <;> rfl
theorem gotH_low {H : He} {o : Int} (h : o < 1) (s : ByteArray) : gotH H o s = vl0 := by
  unfold gotH
  exact getF_more 0 h _ (Nat.zero_le _)
theorem onC_more {H : He} {q : Int} : ∀ (n : Nat) {o : Int}, upN H n o < 1 → ∀ m, n ≤ m → onC H q m o = onC H q n o
  | 0, o, h, m, _ => by
    have h0 : o < 1 := h
    cases m with
    | zero => rfl
    | succ m =>
      show (if o < 1 then false else if o = q then true else onC H q m (protoH H o)) = false
      rw [if_pos h0]
  | n + 1, o, h, 0, hm => absurd hm (by omega)
  | n + 1, o, h, m + 1, hm => by
    show (if o < 1 then false else if o = q then true else onC H q m (protoH H o)) = (if o < 1 then false else if o = q then true else onC H q n (protoH H o))
    rw [onC_more n (o := (protoH H o : Int)) h m (by omega)]
def onH (H : He) (q o : Int) : Bool := onC H q (H.os.length + 1) o
theorem onH_step {K : Nat} {H : He} (h : WfH K H) (q o : Int) : onH H q o = if o < 1 then false else if o = q then true else onH H q (protoH H o) := by
  unfold onH
  rw [← onC_more (H.os.length + 1) (h.within o) (H.os.length + 1 + 1) (by omega)]
  rfl

end Go.Proofs.YtimhgbcanmgajaaGreat

namespace Go.Proofs.YtimhgbcanmgajaaGreat
set_option linter.unusedSimpArgs false
open Go.RowKit

theorem upN_congr {H H' : He} (h : ∀ o, protoH H' o = protoH H o) : ∀ (k : Nat) (o : Int), upN H' k o = upN H k o
  | 0, _ => rfl
  | k + 1, o => by rw [upN, upN, h o]; exact upN_congr h k _
theorem WfO.ext {K K' n n' : Nat} {N N' : List ByteArray} {L L' : List Sh} {x : Ob} (h : WfO K N L n x) (hK : K ≤ K') (hn : n ≤ n') (hm : ∀ (i : Nat) (s : Sh), L[i]? = some s → ∀ x ∈ s.2, 1 ≤ x ∧ x ≤ N.length) (sL : ∀ (i : Nat) (s : Sh), L[i]? = some s → L'[i]? = some s) (sN : ∀ (i : Nat) (s : ByteArray), N[i]? = some s → N'[i]? = some s) : WfO K' N' L' n' x := by
  refine ⟨h.ok, h.few, Nat.le_trans h.ep hK, Nat.le_trans h.pr hn, fun h0 => ?_⟩
  obtain ⟨ns, h1, h2⟩ := h.sh h0
  obtain ⟨i, e, hi⟩ := getS_some h1
  refine ⟨ns, by rw [e, getS_succ]; exact sL i _ hi, ?_⟩
  rw [h2]
  refine List.map_congr_left (fun y hy => ?_)
  have hb := hm i _ hi y hy
  obtain ⟨j, rfl⟩ : ∃ j : Nat, y = ((j + 1 : Nat) : Int) := ⟨(y - 1).toNat, by omega⟩
  have hj : j < N.length := by omega
  have h3 := List.getElem?_eq_getElem hj
  rw [textN_at h3, textN_at (sN j _ h3)]
/-- more shapes, more names -/
theorem WfH.ext {K K' : Nat} {H : He} {N' : List ByteArray} {L' : List Sh} (h : WfH K H) (hK : K ≤ K') (hs : WfS H.M L') (hd : N'.Nodup) (hl : N'.length ≤ K') (hz : ∀ s ∈ N', s.size ≤ 1000000) (hn : ∀ (i : Nat) (s : Sh), L'[i]? = some s → ∀ x ∈ s.2, 1 ≤ x ∧ x ≤ N'.length)
    (sL : ∀ (i : Nat) (s : Sh), H.L[i]? = some s → L'[i]? = some s) (sN : ∀ (i : Nat) (s : ByteArray), H.N[i]? = some s → N'[i]? = some s) : WfH K' { H with N := N', L := L' } :=
  ⟨hs, hd, hl, hz, hn, h.most, h.props, h.len, fun i x hi => (h.obs i x hi).ext hK (Nat.le_refl _) h.nums sL sN, fun o => by
    obtain ⟨k, hk⟩ := h.ends o
    exact ⟨k, by rw [upN_congr (H := H) (H' := { H with N := N', L := L' }) (fun _ => rfl) k o]; exact hk⟩⟩
theorem WfH.more {K K' : Nat} {H : He} (h : WfH K H) (hK : K ≤ K') : WfH K' H := h.ext hK h.wfs h.nd (Nat.le_trans h.nl hK) h.nsz h.nums (fun _ _ e => e) (fun _ _ e => e)
theorem of_nums {M n : Nat} {L : List Sh} {s : Sh} (hs : ∀ x ∈ s.2, 1 ≤ x ∧ x ≤ (n : Int)) (hn : ∀ (i : Nat) (s : Sh), L[i]? = some s → ∀ x ∈ s.2, 1 ≤ x ∧ x ≤ (n : Int)) : ∀ (i : Nat) (t : Sh), (ofL M L s)[i]? = some t → ∀ x ∈ t.2, 1 ≤ x ∧ x ≤ (n : Int) := by
  intro i t ht
  unfold ofL at ht
  split at ht
  · exact hn i t ht
  · split at ht
    · exact hn i t ht
    · rcases get_snoc ht with h | ⟨_, rfl⟩
      · exact hn i t h
      · exact hs
theorem add_nums {M n : Nat} {L : List Sh} {id x : Int} (hx : 1 ≤ x ∧ x ≤ (n : Int)) (hn : ∀ (i : Nat) (s : Sh), L[i]? = some s → ∀ x ∈ s.2, 1 ≤ x ∧ x ≤ (n : Int)) : ∀ (i : Nat) (t : Sh), (addL M L id x)[i]? = some t → ∀ x ∈ t.2, 1 ≤ x ∧ x ≤ (n : Int) := by
  unfold addL
  split
  · rename_i s hs
    obtain ⟨j, _, hj⟩ := getS_some hs
    split
    · exact hn
    · refine of_nums (fun y hy => ?_) hn
      simp at hy
      rcases hy with hy | rfl
      · exact hn j s hj y hy
      · exact hx
  · exact hn
theorem adds_nums {M n : Nat} : ∀ (xs : List Int) (q : Nat × List Sh), (∀ x ∈ xs, 1 ≤ x ∧ x ≤ (n : Int)) → (∀ (i : Nat) (s : Sh), q.2[i]? = some s → ∀ x ∈ s.2, 1 ≤ x ∧ x ≤ (n : Int)) → ∀ (i : Nat) (t : Sh), (addsP M xs q).2[i]? = some t → ∀ x ∈ t.2, 1 ≤ x ∧ x ≤ (n : Int)
  | [], _, _, h => h
  | x :: r, q, hx, h => adds_nums r _ (fun y hy => hx y (by simp [hy])) (add_nums (hx x (by simp)) h)
theorem root_nums {M n : Nat} {L : List Sh} {p : Int} (hn : ∀ (i : Nat) (s : Sh), L[i]? = some s → ∀ x ∈ s.2, 1 ≤ x ∧ x ≤ (n : Int)) : ∀ (i : Nat) (t : Sh), (rootL M L p)[i]? = some t → ∀ x ∈ t.2, 1 ≤ x ∧ x ≤ (n : Int) := by
  unfold rootL
  split
  · exact hn
  · exact of_nums (by simp) hn
theorem move_nums {M n : Nat} {L : List Sh} {id p : Int} (hn : ∀ (i : Nat) (s : Sh), L[i]? = some s → ∀ x ∈ s.2, 1 ≤ x ∧ x ≤ (n : Int)) : ∀ (i : Nat) (t : Sh), (moveP M L id p).2[i]? = some t → ∀ x ∈ t.2, 1 ≤ x ∧ x ≤ (n : Int) := by
  unfold moveP
  split
  · rename_i s hs
    obtain ⟨j, _, hj⟩ := getS_some hs
    exact adds_nums _ _ (hn j s hj) (root_nums hn)
  · exact hn
theorem next_wf {K : Nat} {H : He} (h : WfH K H) (hK : K ≤ 900000) (id : Int) (s : ByteArray) (hsz : s.size ≤ 1000000) : WfH (K + 1) (nextH H id s) := by
  unfold nextH
  cases hg : getS H.L id with
  | none => exact h.more (Nat.le_succ _)
  | some y =>
    have hat := ofT_at H.N s
    have hlen := ofT_len H.N s
    have hl := h.nl
    refine h.ext (Nat.le_succ _) (h.wfs.add (by unfold I64; omega)) (ofT_once h.nd) (by omega) (fun y hy => by unfold ofT at hy; split at hy; exact h.nsz y hy; simp at hy; rcases hy with hy | rfl; exact h.nsz y hy; exact hsz) (add_nums (by omega) (fun i t ht x hx => ?_)) (fun _ _ e => addL_stay e) (fun _ _ e => ofT_get e)
    have := h.nums i t ht x hx
    omega
/-- an object more -/
theorem make_wf {K : Nat} {H : He} (h : WfH K H) : WfH K (makeH H) := by
  unfold makeH
  by_cases hm : H.most ≤ H.os.length
  · rw [if_pos hm]; exact h
  · rw [if_neg hm]
    have hr := h.wfs.root (p := 0) (by unfold I64; omega)
    have e := h.ext (L' := rootL H.M H.L 0) (N' := H.N) (Nat.le_refl _) hr h.nd h.nl h.nsz (root_nums h.nums) (fun _ _ e => rootL_stay e) (fun _ _ e => e)
    refine ⟨hr, h.nd, h.nl, h.nsz, fun i t ht => e.nums i t ht, h.most, h.props, by simp; omega, fun i x hi => ?_, fun o => ?_⟩
    · rcases get_snoc hi with hi | ⟨_, rfl⟩
      · exact (e.obs i x hi).ext (Nat.le_refl _) (by simp) e.nums (fun _ _ e => e) (fun _ _ e => e)
      · refine ⟨okL_nil, by simp, Nat.zero_le _, Nat.zero_le _, fun h0 => ⟨[], ?_, rfl⟩⟩
        dsimp only at h0 ⊢
        unfold rootN rootL at *
        rw [if_neg (by omega)] at h0 ⊢
        rw [if_neg (by omega)]
        rcases of_spec (0, []) h.wfs with ⟨j, e1, e2⟩ | ⟨e1, _⟩
        · rw [e1, getS_succ, e2]
          rfl
        · exact absurd e1 h0
    · have hp : ∀ q : Int, protoH { H with L := rootL H.M H.L 0, os := H.os ++ [⟨0, [], 0, rootN H.M H.L 0⟩] } q = protoH H q := by
        intro q
        unfold protoH getO
        dsimp only
        by_cases hq : 1 ≤ q
        · rw [if_pos hq, if_pos hq]
          by_cases hl : (q - 1).toNat < H.os.length
          · rw [List.getElem?_append_left hl]
          · rw [List.getElem?_append_right (by omega), List.getElem?_eq_none_iff.2 (by omega : H.os.length ≤ (q - 1).toNat)]
            cases hz : (q - 1).toNat - H.os.length with
            | zero => rfl
            | succ z => rfl
        · rw [if_neg hq, if_neg hq]
      obtain ⟨k, hk⟩ := h.ends o
      exact ⟨k, by rw [upN_congr hp k o]; exact hk⟩
/-- an object is another one -/
def putI (H : He) (i : Nat) (x : Ob) : He := { H with os := H.os.set i x }
theorem putO_succ (H : He) (i : Nat) (x : Ob) : putO H ((i + 1 : Nat) : Int) x = putI H i x := by
  unfold putO putI
  rw [show (((i + 1 : Nat) : Int) - 1).toNat = i by omega]
theorem set_get {α : Type} {l : List α} {i j : Nat} {x y : α} (h : (l.set i x)[j]? = some y) : (j = i ∧ y = x ∧ i < l.length) ∨ (j ≠ i ∧ l[j]? = some y) := by
  by_cases e : j = i
  · subst e
    have hl : j < l.length := by have := lt_of_get h; simpa using this
    rw [List.getElem?_set_self hl] at h
    injection h with h
    exact .inl ⟨rfl, h.symm, hl⟩
  · rw [List.getElem?_set_ne (fun h => e h.symm)] at h
    exact .inr ⟨e, h⟩
theorem getO_put (H : He) {i : Nat} (x : Ob) (hi : i < H.os.length) (o : Int) : getO (putI H i x) o = if o = ((i + 1 : Nat) : Int) then some x else getO H o := by
  unfold getO putI
  dsimp only
  by_cases ho : 1 ≤ o
  · rw [if_pos ho, if_pos ho]
    by_cases e : o = ((i + 1 : Nat) : Int)
    · subst e
      rw [if_pos rfl, show (((i + 1 : Nat) : Int) - 1).toNat = i by omega, List.getElem?_set_self hi]
    · rw [if_neg e, List.getElem?_set_ne (by omega)]
  · rw [if_neg ho, if_neg ho, if_neg (by omega)]
theorem put_wf {K : Nat} {H : He} {i : Nat} {x' : Ob} (h : WfH K H) (hx : WfO K H.N H.L H.os.length x') (he : ∀ o, ∃ k, upN (putI H i x') k o < 1) : WfH K (putI H i x') := by
  refine ⟨h.wfs, h.nd, h.nl, h.nsz, h.nums, h.most, h.props, by unfold putI; simp; exact h.len, fun j y hj => ?_, he⟩
  have e : (putI H i x').os.length = H.os.length := by unfold putI; simp
  rw [e]
  rcases set_get hj with ⟨_, rfl, _⟩ | ⟨_, hj⟩
  · exact hx
  · exact h.obs j y hj
theorem put_ends {K : Nat} {H : He} {i : Nat} {x x' : Ob} (h : WfH K H) (hi : H.os[i]? = some x) (hp : x'.pr = x.pr) : ∀ o, ∃ k, upN (putI H i x') k o < 1 := by
  intro o
  obtain ⟨k, hk⟩ := h.ends o
  refine ⟨k, ?_⟩
  rw [upN_congr (H := H) (fun q => ?_) k o]
  · exact hk
  · unfold protoH
    rw [getO_put H x' (lt_of_get hi)]
    by_cases e : q = ((i + 1 : Nat) : Int)
    · rw [if_pos e, e, getO_succ, hi]
      exact hp
    · rw [if_neg e]
theorem on_not {K : Nat} {H : He} (h : WfH K H) {o : Int} (ho : 1 ≤ o) : ∀ (j : Nat) {p : Int}, onH H o p = false → upN H j p ≠ o
  | 0, p, hp, e => by
    have e' : p = o := e
    rw [onH_step h, if_neg (by omega), if_pos e'] at hp
    cases hp
  | j + 1, p, hp, e => by
    rw [onH_step h] at hp
    refine on_not h ho j (p := protoH H p) ?_ e
    by_cases h1 : p < 1
    · rw [protoH_out h1, onH_step h, if_pos (by omega)]
    · rw [if_neg h1] at hp
      by_cases h2 : p = o
      · rw [if_pos h2] at hp; cases hp
      · rw [if_neg h2] at hp; exact hp
theorem proto_ends {K : Nat} {H : He} {i p : Nat} {x x' : Ob} (h : WfH K H) (hi : H.os[i]? = some x) (hp : x'.pr = p) (hon : onH H ((i + 1 : Nat) : Int) (p : Int) = false) : ∀ o, ∃ k, upN (putI H i x') k o < 1 := by
  have hpr : ∀ q : Int, protoH (putI H i x') q = if q = ((i + 1 : Nat) : Int) then p else protoH H q := by
    intro q
    unfold protoH
    rw [getO_put H x' (lt_of_get hi)]
    by_cases e : q = ((i + 1 : Nat) : Int)
    · rw [if_pos e, if_pos e]; exact hp
    · rw [if_neg e, if_neg e]
  have far : ∀ (k : Nat) (q : Int), (∀ j, upN H j q ≠ ((i + 1 : Nat) : Int)) → upN (putI H i x') k q = upN H k q := by
    intro k
    induction k with
    | zero => intro q _; rfl
    | succ k ih =>
      intro q hq
      show upN (putI H i x') k (protoH (putI H i x') q) = upN H k (protoH H q)
      rw [hpr q, if_neg (show ¬ q = ((i + 1 : Nat) : Int) from hq 0)]
      exact ih _ (fun j => hq (j + 1))
  have hpe : ∃ k, upN (putI H i x') k (p : Int) < 1 := by
    obtain ⟨k, hk⟩ := h.ends (p : Int)
    exact ⟨k, by rw [far k _ (fun j => on_not h (by omega) j hon)]; exact hk⟩
  have all : ∀ (k : Nat) (q : Int), upN H k q < 1 → ∃ k', upN (putI H i x') k' q < 1 := by
    intro k
    induction k with
    | zero => intro q hq; exact ⟨0, hq⟩
    | succ k ih =>
      intro q hq
      by_cases e : q = ((i + 1 : Nat) : Int)
      · obtain ⟨k', hk'⟩ := hpe
        exact ⟨k' + 1, by rw [upN, hpr q, if_pos e]; exact hk'⟩
      · obtain ⟨k', hk'⟩ := ih (protoH H q) hq
        exact ⟨k' + 1, by rw [upN, hpr q, if_neg e]; exact hk'⟩
  intro o
  obtain ⟨k, hk⟩ := h.ends o
  exact all k o hk

end Go.Proofs.YtimhgbcanmgajaaGreat
