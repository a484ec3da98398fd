/- What is resolved, and turned, is not too great; units as they are read. -/
import Derived.Test.YtgdbaceehpcgbaaDoorJoint22
import Derived.Test.YtgdbaceehpcgbaaDoorJoint8
namespace Go.Proofs.YtgdbaceehpcgbaaDoor
open Go.RowKit

theorem name_12 {s : ByteArray} (h : nameB s.data.toList = true) : s.size ≤ 12 := by
  rw [← list_size]
  generalize s.data.toList = l at *
  cases l with
  | nil => simp [nameB] at h
  | cons c r => simp [nameB] at h; simp; omega
theorem turn_str {k : Int} {s : ByteArray} (h : strOk k s = true) (hk : isNm k = true) : s.size ≤ 100 := by
  unfold strOk at h
  have hk' : k = 5 ∨ k = 21 ∨ k = 22 := by
    unfold isNm at hk
    simp only [Bool.or_eq_true, beq_iff_eq] at hk
    rcases hk with (h | h) | h
    · exact .inl h
    · exact .inr (.inl h)
    · exact .inr (.inr h)
  split at h
  · rename_i h4
    rcases hk' with rfl | rfl | rfl <;> simp at h4
  · rcases hk' with rfl | rfl | rfl
    all_goals
      first
      | exact name_short (proper_name h)
      | (simp at h; exact name_short (proper_name h))
mutual
theorem count_turnN : ∀ t : Nd, countN (turnN t) = countN t
  | .mk k o n s ns ks p => by rw [turnN, countN, countN, count_turnL ks]
theorem count_turnL : ∀ l : List Nd, countL (turnL l) = countL l
  | [] => by rw [turnL]
  | x :: r => by rw [turnL, countL, countL, count_turnN x, count_turnL r]
end
theorem mem_turnL : ∀ {l : List Nd} {y : Nd}, y ∈ turnL l → ∃ x ∈ l, y = turnN x
  | [], y, h => by rw [turnL] at h; cases h
  | x :: r, y, h => by
    rw [turnL] at h
    rcases List.mem_cons.1 h with rfl | h
    · exact ⟨x, by simp, rfl⟩
    · obtain ⟨z, hz, e⟩ := mem_turnL h
      exact ⟨z, by simp [hz], e⟩
theorem names_right {k : Int} {ns : List ByteArray} (h : nsOk k ns = true) : ∀ s ∈ ns, s.size ≤ 12 := by
  unfold nsOk at h
  split at h
  · rw [Bool.and_eq_true, decide_eq_true_iff, List.all_eq_true] at h
    exact fun s hs => name_12 (h.2 s hs)
  · split at h
    · rw [Bool.and_eq_true, decide_eq_true_iff, List.all_eq_true] at h
      exact fun s hs => name_12 (proper_name (h.2 s hs))
    · rw [decide_eq_true_iff] at h
      have : ns = [] := List.length_eq_zero_iff.1 h
      subst this
      exact fun s hs => by cases hs
theorem small_turn {t : Nd} : ∀ {a : Nat}, rightN t a = true → smallN (turnN t) = true := by
  refine Nd.ind (P := fun t => ∀ {a : Nat}, rightN t a = true → smallN (turnN t) = true) ?_ t
  intro k o n s ns ks p ih a h
  rw [rightN_mk, Bool.and_eq_true, Bool.and_eq_true] at h
  obtain ⟨_, h1, h2⟩ := h
  unfold okB at h1
  simp only [Bool.and_eq_true] at h1
  obtain ⟨_, _, h3, h4, _⟩ := h1
  have e1 := str_small h3
  obtain ⟨e2, e3⟩ := ns_small h4
  have e5 := names_right h4
  have e4 : smallL (turnL ks) = true := smallL_all fun y hy => by
    obtain ⟨x, hx, rfl⟩ := mem_turnL hy
    obtain ⟨b, hb⟩ := rightL_each h2 x hx
    exact ih x hx hb
  rw [turnN, smallN, e4]
  have q1 : (if isNm k then qB s else s).size ≤ 600 := by
    cases hk : isNm k with
    | true => rw [if_pos rfl, qB_size]; have := turn_str h3 hk; omega
    | false => rw [if_neg (by decide)]; exact e1
  have q2 : (if k = 8 then ns.map qB else ns).length ≤ 60 := by split <;> simp [e2]
  have q3 : longB (if k = 8 then ns.map qB else ns) = false := by
    unfold longB
    rw [List.any_eq_false]
    intro x hx
    have : x.size ≤ 100 := by
      split at hx
      · obtain ⟨z, hz, rfl⟩ := List.mem_map.1 hx
        rw [qB_size]; have := e5 z hz; omega
      · have := e5 x hx; omega
    simp; omega
  rw [q3]
  simp [q1, q2]
theorem small_turned {t : Nd} (h : checkN t = 0) : smallN (turnN t) = true := by
  unfold checkN at h
  split at h
  · cases h
  · split at h
    · rename_i hr
      exact small_turn hr
    · cases h

/-- functions that are not too great -/
def FineF (N : Nat) (fs : List Fp) : Prop := ∀ f ∈ fs, f.2.2.length ≤ N ∧ ∀ x ∈ f.2.2, smallN x = true ∧ countN x ≤ N
theorem fineF_snoc {N : Nat} {fs : List Fp} {f : Fp} (h : FineF N fs) (hf : f.2.2.length ≤ N ∧ ∀ x ∈ f.2.2, smallN x = true ∧ countN x ≤ N) : FineF N (fs ++ [f]) := fun g hg => by
  rcases List.mem_append.1 hg with h1 | h1
  · exact h g h1
  · simp at h1; subst h1; exact hf
theorem fineF_set {N i : Nat} {fs : List Fp} {f : Fp} (h : FineF N fs) (hf : f.2.2.length ≤ N ∧ ∀ x ∈ f.2.2, smallN x = true ∧ countN x ≤ N) : FineF N (fs.set i f) := fun g hg => by
  rcases List.mem_or_eq_of_mem_set hg with h1 | h1
  · exact h g h1
  · subst h1; exact hf
theorem small_parts {k o n : Int} {s : ByteArray} {ns : List ByteArray} {ks : List Nd} {p : Int} (h : smallN (.mk k o n s ns ks p) = true) : smallL ks = true := by
  rw [smallN] at h
  simp only [Bool.and_eq_true] at h
  exact h.2.2.2
theorem small_put {k o n : Int} {s : ByteArray} {ns : List ByteArray} {ks : List Nd} {p : Int} (h : smallN (.mk k o n s ns ks p) = true) (k' o' n' p' : Int) {ks' : List Nd} (hk : smallL ks' = true) : smallN (.mk k' o' n' s ns ks' p') = true := by
  rw [smallN] at h ⊢
  simp only [Bool.and_eq_true] at h ⊢
  exact ⟨h.1, h.2.1, h.2.2.1, hk⟩
theorem small_bare (k o n p : Int) {ks' : List Nd} (hk : smallL ks' = true) : smallN (.mk k o n ⟨#[]⟩ [] ks' p) = true := by
  rw [smallN, hk]; rfl
theorem smallL_mem : ∀ {l : List Nd}, smallL l = true → ∀ x ∈ l, smallN x = true
  | [], _, x, hx => by cases hx
  | y :: r, h, x, hx => by
    rw [smallL, Bool.and_eq_true] at h
    rcases List.mem_cons.1 hx with rfl | hx
    · exact h.1
    · exact smallL_mem h.2 x hx
mutual
theorem resN_fine {gl : List ByteArray} {N : Nat} : ∀ (t : Nd) {lo : List ByteArray} {fs : List Fp} {q : Nd × List Fp}, resN gl t lo fs = .ok q → smallN t = true → countN t ≤ N → FineF N fs → smallN q.1 = true ∧ countN q.1 ≤ countN t ∧ FineF N q.2
  | .mk k o n s ns ks p, lo, fs, q, h, hs, hc, hf => by
    have hsk := small_parts hs
    have hck : countL ks + 1 ≤ N := by rw [countN] at hc; omega
    rw [resN] at h
    split at h
    · split at h
      · cases h
      · cases h1 : parP p ns [] with
        | bad a b => rw [h1] at h; cases h
        | ok own1 =>
          rw [h1, Rz.bind_ok] at h
          cases h2 : letL ks own1 with
          | bad a b => rw [h2] at h; cases h
          | ok own =>
            rw [h2, Rz.bind_ok] at h
            cases h3 : resL gl ks own (fs ++ [(ns.length, own.length, [])]) with
            | bad a b => rw [h3] at h; cases h
            | ok q3 =>
              rw [h3, Rz.bind_ok] at h
              cases h
              obtain ⟨g1, g2, g3⟩ := resL_fine ks h3 hsk (by omega) (fineF_snoc hf ⟨Nat.zero_le _, fun x hx => by cases hx⟩)
              have hl := countL_len q3.1
              have hq : countL q3.1 ≤ N := by omega
              refine ⟨small_bare _ _ _ _ rfl, by rw [countN, countN, countL]; omega, fineF_set g3 ⟨by simp only; omega, fun x hx => ⟨smallL_mem g1 x hx, Nat.le_trans (count_mem hx) hq⟩⟩⟩
    · split at h
      · split at h
        · cases h
        · cases h3 : resL gl ks lo fs with
          | bad a b => rw [h3] at h; cases h
          | ok q3 =>
            rw [h3, Rz.bind_ok] at h
            cases h
            obtain ⟨g1, g2, g3⟩ := resL_fine ks h3 hsk (by omega) hf
            exact ⟨small_bare _ _ _ _ g1, by rw [countN, countN]; omega, g3⟩
      · cases h3 : resL gl ks lo fs with
        | bad a b => rw [h3] at h; cases h
        | ok q3 =>
          rw [h3, Rz.bind_ok] at h
          cases h
          obtain ⟨g1, g2, g3⟩ := resL_fine ks h3 hsk (by omega) hf
          exact ⟨small_put hs _ _ _ _ g1, by rw [countN, countN]; omega, g3⟩
theorem resL_fine {gl : List ByteArray} {N : Nat} : ∀ (l : List Nd) {lo : List ByteArray} {fs : List Fp} {q : List Nd × List Fp}, resL gl l lo fs = .ok q → smallL l = true → countL l ≤ N → FineF N fs → smallL q.1 = true ∧ countL q.1 ≤ countL l ∧ FineF N q.2
  | [], lo, fs, q, h, _, _, hf => by rw [resL] at h; cases h; exact ⟨by rw [smallL], Nat.le_refl _, hf⟩
  | x :: r, lo, fs, q, h, hs, hc, hf => by
    rw [resL] at h
    rw [smallL, Bool.and_eq_true] at hs
    rw [countL] at hc
    cases h1 : resN gl x lo fs with
    | bad a b => rw [h1] at h; cases h
    | ok q1 =>
      rw [h1, Rz.bind_ok] at h
      cases h2 : resL gl r lo q1.2 with
      | bad a b => rw [h2] at h; cases h
      | ok q2 =>
        rw [h2, Rz.bind_ok] at h
        cases h
        obtain ⟨a1, a2, a3⟩ := resN_fine x h1 hs.1 (by omega) hf
        obtain ⟨b1, b2, b3⟩ := resL_fine r h2 hs.2 (by omega) a3
        exact ⟨by rw [smallL, a1, b1]; rfl, by rw [countL, countL]; omega, b3⟩
end
/-- functions as the document's words have them -/
def fqs (fs : List Fp) : List Fq := fs.map fun f => ((f.1 : Int), (f.2.1 : Int), f.2.2)
theorem fqs_len (fs : List Fp) : (fqs fs).length = fs.length := by simp [fqs]
theorem resolve_fine {t : Nd} {G : Nat} {fs : List Fp} (h : resolveP t = .ok (G, fs)) (hs : smallN t = true) (hc : countN t ≤ 1000000) : FineF 1000000 fs := by
  unfold resolveP at h
  split at h
  · unfold wholeP at h
    cases h1 : letL t.kids [] with
    | bad q e => rw [h1] at h; cases h
    | ok gl =>
      rw [h1, Rz.bind_ok] at h
      cases h2 : resL gl t.kids [] [(0, 0, [])] with
      | bad q e => rw [h2] at h; cases h
      | ok q2 =>
        rw [h2, Rz.bind_ok] at h
        cases h
        obtain ⟨k, o, n, s, ns, ks, p⟩ := t
        have hck : countL ks ≤ 1000000 := by rw [countN] at hc; omega
        obtain ⟨g1, g2, g3⟩ := resL_fine ks h2 (small_parts hs) hck (N := 1000000) (fun f hf => by simp at hf; subst hf; exact ⟨Nat.zero_le _, fun x hx => by cases hx⟩)
        have hl := countL_len q2.1
        have hq : countL q2.1 ≤ 1000000 := by omega
        exact fineF_set g3 ⟨by simp only; omega, fun x hx => ⟨smallL_mem g1 x hx, Nat.le_trans (count_mem hx) hq⟩⟩
  · cases h
mutual
theorem resN_len {gl : List ByteArray} : ∀ (t : Nd) {lo : List ByteArray} {fs : List Fp} {q : Nd × List Fp}, resN gl t lo fs = .ok q → fs.length ≤ 32 → q.2.length ≤ 32
  | .mk k o n s ns ks p, lo, fs, q, h, hl => by
    rw [resN] at h
    split at h
    · split at h
      · cases h
      · cases h1 : parP p ns [] with
        | bad a b => rw [h1] at h; cases h
        | ok own1 =>
          rw [h1, Rz.bind_ok] at h
          cases h2 : letL ks own1 with
          | bad a b => rw [h2] at h; cases h
          | ok own =>
            rw [h2, Rz.bind_ok] at h
            cases h3 : resL gl ks own (fs ++ [(ns.length, own.length, [])]) with
            | bad a b => rw [h3] at h; cases h
            | ok q3 =>
              rw [h3, Rz.bind_ok] at h
              cases h
              have := resL_len ks h3 (by simp; omega)
              simpa using this
    · split at h
      · split at h
        · cases h
        · cases h3 : resL gl ks lo fs with
          | bad a b => rw [h3] at h; cases h
          | ok q3 =>
            rw [h3, Rz.bind_ok] at h
            cases h
            exact resL_len ks h3 hl
      · cases h3 : resL gl ks lo fs with
        | bad a b => rw [h3] at h; cases h
        | ok q3 =>
          rw [h3, Rz.bind_ok] at h
          cases h
          exact resL_len ks h3 hl
theorem resL_len {gl : List ByteArray} : ∀ (l : List Nd) {lo : List ByteArray} {fs : List Fp} {q : List Nd × List Fp}, resL gl l lo fs = .ok q → fs.length ≤ 32 → q.2.length ≤ 32
  | [], lo, fs, q, h, hl => by rw [resL] at h; cases h; exact hl
  | x :: r, lo, fs, q, h, hl => by
    rw [resL] at h
    cases h1 : resN gl x lo fs with
    | bad a b => rw [h1] at h; cases h
    | ok q1 =>
      rw [h1, Rz.bind_ok] at h
      cases h2 : resL gl r lo q1.2 with
      | bad a b => rw [h2] at h; cases h
      | ok q2 =>
        rw [h2, Rz.bind_ok] at h
        cases h
        have := resL_len r h2 (resN_len x h1 hl)
        exact this
end
theorem resolve_len32 {t : Nd} {G : Nat} {fs : List Fp} (h : resolveP t = .ok (G, fs)) : fs.length ≤ 32 := by
  unfold resolveP at h
  split at h
  · unfold wholeP at h
    cases h1 : letL t.kids [] with
    | bad q e => rw [h1] at h; cases h
    | ok gl =>
      rw [h1, Rz.bind_ok] at h
      cases h2 : resL gl t.kids [] [(0, 0, [])] with
      | bad q e => rw [h2] at h; cases h
      | ok q2 =>
        rw [h2, Rz.bind_ok] at h
        cases h
        have := resL_len t.kids h2 (by simp)
        simpa using this
  · cases h
theorem resolve_len {t : Nd} {G : Nat} {fs : List Fp} (h : resolveP t = .ok (G, fs)) : fs.length ≤ 1000000 := Nat.le_trans (resolve_len32 h) (by decide)
theorem fineU_of {fs : List Fp} (h : FineF 1000000 fs) (hl : fs.length ≤ 1000000) : FineU (fqs fs) := by
  refine ⟨by rw [fqs_len]; exact hl, fun f hf => ?_⟩
  obtain ⟨g, hg, rfl⟩ := List.mem_map.1 hf
  exact h g hg
theorem frow_at {ok : Nat → Prop} {w : World} : ∀ {fs : List Fp} {cs : List Value} {i : Nat} {f : Fp}, FRow ok w fs cs → fs[i]? = some f → ∃ bv, cs[i * 3]? = some (.int .i64 (f.1 : Int)) ∧ cs[i * 3 + 1]? = some (.int .i64 (f.2.1 : Int)) ∧ cs[i * 3 + 2]? = some bv ∧ KidsS ok w bv f.2.2
  | [], cs, i, f, _, h => by simp at h
  | x :: r, cs, 0, f, hr, h => by
    obtain ⟨bv, cs', rfl, hk, _⟩ := hr
    simp at h
    subst h
    exact ⟨bv, rfl, rfl, rfl, hk⟩
  | x :: r, cs, i + 1, f, hr, h => by
    obtain ⟨bv, cs', rfl, _, h3⟩ := hr
    obtain ⟨bv2, a, b, c, d⟩ := frow_at h3 (show r[i]? = some f by simpa using h)
    refine ⟨bv2, ?_, ?_, ?_, d⟩
    · rw [show (i + 1) * 3 = i * 3 + 1 + 1 + 1 by omega]; simpa using a
    · rw [show (i + 1) * 3 + 1 = i * 3 + 1 + 1 + 1 + 1 by omega]; simpa using b
    · rw [show (i + 1) * 3 + 2 = i * 3 + 2 + 1 + 1 + 1 by omega]; simpa using c
theorem unS_in {lo : Nat} {w : World} {fv : Value} {fs : List Fp} (h : UnS lo w fv fs) : FnsIn w.heap.size w fv (fqs fs) := by
  obtain ⟨ok, ⟨cs, hown, hr, _⟩, hlt, _⟩ := h
  rcases hown.2 with ⟨h1, h2⟩ | ⟨g, cap, cur, h1, h2, h3, h4, h5, h6, h7⟩
  · have : fs = [] := List.length_eq_zero_iff.1 h2
    subst this
    exact .inl ⟨none, 0, h1, rfl⟩
  · have hg : g < w.heap.size := blk_lt (show Blk g 44 cur w from h3)
    refine .inr ⟨g, 0, cap, by rw [fqs_len]; exact h1, hg, fun i f hi => ?_, by rw [fqs_len]; exact h4⟩
    unfold fqs at hi
    rw [List.getElem?_map] at hi
    cases hfi : fs[i]? with
    | none => rw [hfi] at hi; cases hi
    | some x =>
      rw [hfi] at hi
      cases hi
      obtain ⟨bv, a, b, c, d⟩ := frow_at hr hfi
      rw [h1] at hown
      refine ⟨bv, ?_, ?_, ?_, kidsS_in (fun b hb => (hlt b hb).2) d⟩
      · rw [Nat.zero_add]; exact row_cell hown a
      · rw [Nat.zero_add]; exact row_cell hown b
      · rw [Nat.zero_add]; exact row_cell hown c
theorem sameF_refl (f : Fq) : sameF f f = true := by unfold sameF; rw [sameL_refl]; simp
theorem sameFs_refl : ∀ l : List Fq, sameFs l l = true
  | [] => rfl
  | x :: r => by unfold sameFs; rw [sameF_refl, sameFs_refl r]; rfl
theorem sameU_refl (G : Int) (fs : List Fq) : sameU G fs G fs = true := by unfold sameU; rw [sameFs_refl]; simp

end Go.Proofs.YtgdbaceehpcgbaaDoor
