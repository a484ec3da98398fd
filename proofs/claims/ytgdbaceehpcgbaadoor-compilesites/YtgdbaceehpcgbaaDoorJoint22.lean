/- Resolve. Names do not matter, as plain functions. Right trees have short texts. -/
import Derived.Test.YtgdbaceehpcgbaaDoorJoint18
import Derived.Test.YtgdbaceehpcgbaaDoorJoint21
import Derived.Test.YtgdbaceehpcgbaaDoorJoint6
import Derived.Test.YtgdbaceehpcgbaaDoorJoint2
namespace Go.Proofs.YtgdbaceehpcgbaaDoor
set_option linter.unusedSimpArgs false
open Go.RowKit

/-- the functions of a unit, in blocks from lo on -/
def UnS (lo : Nat) (w : World) (fv : Value) (fs : List Fp) : Prop := ∃ ok, FnsS ok w fv fs ∧ (∀ b, ok b → lo ≤ b ∧ b < w.heap.size) ∧ ∀ g, fv.ownBlock = some g → lo ≤ g
theorem unS_on {lo : Nat} {a c : World} {fv : Value} {fs : List Fp} (h : UnS lo a fv fs) (k : Below a.heap.size a c) : UnS lo c fv fs := by
  obtain ⟨ok, h1, h2, h3⟩ := h
  have hz := k.size
  refine ⟨ok, fnsS_keep h1 (fun b hb => ⟨hb, k.block b (h2 b hb).2⟩) (fun g hg => ?_), fun b hb => ⟨(h2 b hb).1, by have := (h2 b hb).2; omega⟩, h3⟩
  obtain ⟨cur, hc⟩ := fnsS_lt h1 hg
  obtain ⟨cs, _, _, h6⟩ := h1
  exact ⟨k.block g (blk_lt hc), h6 g hg⟩
def ResOut (w : World) (x : Rz Up8) (e : Ending) (w' : World) : Prop :=
  Below w.heap.size w w' ∧ match x with
  | .bad p er => e = .returned (.tuple #[.agg #[.int .i64 0, .slice none 0 0], .int .i64 p, .int .i64 er])
  | .ok (G, fs) => ∃ fv, e = .returned (.tuple #[.agg #[.int .i64 (G : Int), fv], .int .i64 0, .int .i64 0]) ∧ UnS w.heap.size w' fv fs
theorem ret_u {fn : Func} {t u v : Tmp} (h : fn.results = #[.cell t 24, .tmp u, .tmp v]) {tmps : Array Value} {g : Nat} {w : World} {x y : Value} (ht : tmps.getD t undef = .pointer (some ⟨g, 0, none⟩))
    (c : w.cell? ⟨g, 0, none⟩ = some x ∧ w.cell? ⟨g, 1, none⟩ = some y) :
    (results fn tmps).run Tryd.prog w = .ok (.tuple #[.agg #[x, y], tmps.getD u undef, tmps.getD v undef]) w := by
  rw [Array.getD_eq_getD_getElem?] at ht
  simp [results, h, ht, go_sem, asAddr, c.1, c.2]
theorem resolveP_mk (t : Nd) : resolveP t = if checkN t = 0 then wholeP t.kids else .bad 0 (checkN t) := rfl

theorem wholeP_bad {ks : List Nd} {p e : Int} (h : wholeP ks = .bad p e) : e ≠ 0 := by
  unfold wholeP at h
  cases h1 : letL ks [] with
  | bad q e' => rw [h1] at h; cases h; exact letL_bad ks h1
  | ok gl =>
    rw [h1, Rz.bind_ok] at h
    cases h2 : resL gl ks [] [(0, 0, [])] with
    | bad q e' => rw [h2] at h; cases h; exact resL_bad ks h2
    | ok a => rw [h2] at h; cases h
end Go.Proofs.YtgdbaceehpcgbaaDoor

namespace Go.Proofs.YtgdbaceehpcgbaaDoor
open Go.RowKit

/-- a q ahead -/
def qB (s : ByteArray) : ByteArray := (⟨#[113]⟩ : ByteArray) ++ s
theorem qB_inj {s t : ByteArray} (h : qB s = qB t) : s = t := by
  have h1 := congrArg ByteArray.data h
  unfold qB at h1
  rw [ByteArray.data_append, ByteArray.data_append] at h1
  have := (Array.append_right_inj _).1 h1
  cases s; cases t
  simpa using this
theorem qB_size (s : ByteArray) : (qB s).size = s.size + 1 := by
  unfold qB
  rw [ByteArray.size_append]
  show 1 + s.size = _
  omega
mutual
def turnN : Nd → Nd
  | .mk k o n s ns ks p => .mk k o n (if isNm k then qB s else s) (if k = 8 then ns.map qB else ns) (turnL ks) p
def turnL : List Nd → List Nd
  | [] => []
  | x :: r => turnN x :: turnL r
end
def Rz.map {α β : Type} (f : α → β) (x : Rz α) : Rz β := match x with | .ok a => .ok (f a) | .bad p e => .bad p e
theorem idx_q : ∀ (l : List ByteArray) (s : ByteArray), idxN (l.map qB) (qB s) = idxN l s
  | [], s => rfl
  | x :: r, s => by
    show (if qB x = qB s then some 0 else (idxN (r.map qB) (qB s)).map (· + 1)) = if x = s then some 0 else (idxN r s).map (· + 1)
    rw [idx_q r s]
    by_cases h : x = s
    · rw [if_pos h, if_pos (by rw [h])]
    · rw [if_neg h, if_neg (fun e => h (qB_inj e))]
theorem declE_q (l : List ByteArray) (s : ByteArray) : declE (l.map qB) (qB s) = declE l s := by
  unfold declE
  rw [idx_q, List.length_map]
theorem declR_q (l : List ByteArray) (s : ByteArray) (p : Int) : declR (l.map qB) (qB s) p = (declR l s p).map (·.map qB) := by
  unfold declR
  rw [declE_q]
  split
  · show Rz.ok (l.map qB ++ [qB s]) = Rz.ok ((l ++ [s]).map qB)
    rw [List.map_append]; rfl
  · rfl
theorem parP_q (p : Int) : ∀ (ns acc : List ByteArray), parP p (ns.map qB) (acc.map qB) = (parP p ns acc).map (·.map qB)
  | [], acc => rfl
  | s :: r, acc => by
    show (declR (acc.map qB) (qB s) p).bind (fun acc' => parP p (r.map qB) acc') = ((declR acc s p).bind fun acc' => parP p r acc').map (·.map qB)
    rw [declR_q]
    cases declR acc s p with
    | ok a => exact parP_q p r a
    | bad q e => rfl
mutual
theorem letN_q : ∀ (t : Nd) (acc : List ByteArray), letN (turnN t) (acc.map qB) = (letN t acc).map (·.map qB)
  | .mk k o n s ns ks p, acc => by
    rw [turnN, letN, letN]
    by_cases h : k = 21
    · rw [if_pos h, if_pos h, if_pos (show isNm k = true by rw [h]; rfl)]
      exact declR_q acc s p
    · rw [if_neg h, if_neg h]
      split
      · exact letL_q ks acc
      · rfl
theorem letL_q : ∀ (l : List Nd) (acc : List ByteArray), letL (turnL l) (acc.map qB) = (letL l acc).map (·.map qB)
  | [], acc => by rw [turnL, letL, letL]; rfl
  | x :: r, acc => by
    rw [turnL, letL, letL, letN_q x acc]
    cases letN x acc with
    | ok a => exact letL_q r a
    | bad q e => rfl
end
theorem findP_q (gl lo : List ByteArray) (k : Int) (s : ByteArray) : findP (gl.map qB) (lo.map qB) k (qB s) = findP gl lo k s := by
  unfold findP
  rw [idx_q, idx_q]
mutual
theorem resN_q (gl : List ByteArray) : ∀ (t : Nd) (lo : List ByteArray) (fs : List Fp), resN (gl.map qB) (turnN t) (lo.map qB) fs = resN gl t lo fs
  | .mk k o n s ns ks p, lo, fs => by
    rw [turnN, resN, resN]
    by_cases h8 : k = 8
    · rw [if_pos h8, if_pos h8, if_pos h8]
      split
      · rfl
      · have hp := parP_q p ns []
        rw [List.map_nil] at hp
        rw [hp]
        cases parP p ns [] with
        | bad q e => rfl
        | ok own1 =>
          show (letL (turnL ks) (own1.map qB)).bind _ = (letL ks own1).bind _
          rw [letL_q]
          cases letL ks own1 with
          | bad q e => rfl
          | ok own =>
            simp only [Rz.map, Rz.bind, List.length_map]
            rw [resL_q gl ks own]
    · rw [if_neg h8, if_neg h8, if_neg h8]
      cases hn : isNm k
      · simp only [Bool.false_eq_true, if_false]
        rw [resL_q gl ks lo fs]
      · simp only [if_true]
        rw [findP_q]
        cases findP gl lo k s with
        | none => rfl
        | some x =>
          obtain ⟨k', i⟩ := x
          simp only
          rw [resL_q gl ks lo fs]
theorem resL_q (gl : List ByteArray) : ∀ (l : List Nd) (lo : List ByteArray) (fs : List Fp), resL (gl.map qB) (turnL l) (lo.map qB) fs = resL gl l lo fs
  | [], lo, fs => by rw [turnL, resL, resL]
  | x :: r, lo, fs => by
    rw [turnL, resL, resL, resN_q gl x lo fs]
    cases resN gl x lo fs with
    | bad q e => rfl
    | ok a =>
      simp only [Rz.bind]
      rw [resL_q gl r lo a.2]
end
theorem wholeP_q (ks : List Nd) : wholeP (turnL ks) = wholeP ks := by
  unfold wholeP
  have h := letL_q ks []
  rw [List.map_nil] at h
  rw [h]
  cases letL ks [] with
  | bad q e => rfl
  | ok gl =>
    simp only [Rz.map, Rz.bind, List.length_map]
    have h2 := resL_q gl ks [] [(0, 0, [])]
    rw [List.map_nil] at h2
    rw [h2]
theorem turn_kids (t : Nd) : (turnN t).kids = turnL t.kids := by
  obtain ⟨k, o, n, s, ns, ks, p⟩ := t
  rw [turnN]; rfl
theorem resolve_turned {t : Nd} (h1 : checkN t = 0) (h2 : checkN (turnN t) = 0) : resolveP (turnN t) = resolveP t := by
  unfold resolveP
  rw [if_pos h1, if_pos h2, turn_kids, wholeP_q]

end Go.Proofs.YtgdbaceehpcgbaaDoor

namespace Go.Proofs.YtgdbaceehpcgbaaDoor
open Go.RowKit

theorem name_short {s : ByteArray} (h : nameB s.data.toList = true) : s.size ≤ 100 := by
  rw [← list_size]
  generalize s.data.toList = l at *
  cases l with
  | nil => simp [nameB] at h
  | cons c r => simp [nameB] at h; simp; omega
theorem proper_name {s : ByteArray} (h : properB s = true) : nameB s.data.toList = true := by
  unfold properB at h
  simp at h
  exact h.1
theorem str_small {k : Int} {s : ByteArray} (h : strOk k s = true) : s.size ≤ 600 := by
  unfold strOk at h
  split at h
  · have := of_decide_eq_true h; omega
  · split at h
    · have := name_short (proper_name h); omega
    · split at h
      · have := name_short (show nameB s.data.toList = true from h); omega
      · have := of_decide_eq_true h; omega
theorem ns_small {k : Int} {ns : List ByteArray} (h : nsOk k ns = true) : ns.length ≤ 60 ∧ longB ns = false := by
  have key : (∀ s ∈ ns, nameB s.data.toList = true) → longB ns = false := by
    intro hn
    unfold longB
    rw [List.any_eq_false]
    intro x hx
    have := name_short (hn x hx)
    simp; omega
  unfold nsOk at h
  split at h
  · rw [Bool.and_eq_true, decide_eq_true_iff, List.all_eq_true] at h
    exact ⟨by omega, key fun s hs => h.2 s hs⟩
  · split at h
    · rw [Bool.and_eq_true, decide_eq_true_iff, List.all_eq_true] at h
      exact ⟨by omega, key fun s hs => proper_name (h.2 s hs)⟩
    · rw [decide_eq_true_iff] at h
      have : ns = [] := List.length_eq_zero_iff.1 h
      subst this
      exact ⟨by simp, rfl⟩
theorem rightL_each {k : Int} : ∀ {ks : List Nd} {i : Nat}, rightL ks k i = true → ∀ x ∈ ks, ∃ a, rightN x a = true
  | [], _, _ => by simp
  | y :: r, i, h => by
    rw [rightL, Bool.and_eq_true] at h
    intro x hx
    rcases List.mem_cons.1 hx with rfl | hx
    · exact ⟨_, h.1⟩
    · exact rightL_each h.2 x hx
theorem smallL_all : ∀ {ks : List Nd}, (∀ x ∈ ks, smallN x = true) → smallL ks = true
  | [], _ => by rw [smallL]
  | x :: r, h => by rw [smallL, h x (by simp), smallL_all (fun y hy => h y (by simp [hy]))]; rfl
theorem small_right {t : Nd} : ∀ {a : Nat}, rightN t a = true → smallN t = true := by
  refine Nd.ind (P := fun t => ∀ {a : Nat}, rightN t a = true → smallN t = true) ?_ t
  intro k o n s ns ks p ih a h
  rw [rightN_mk, Bool.and_eq_true, Bool.and_eq_true] at h
  obtain ⟨_, h1, h2⟩ := h
  unfold okB at h1
  simp only [Bool.and_eq_true] at h1
  obtain ⟨_, _, h3, h4, _⟩ := h1
  have e1 := str_small h3
  obtain ⟨e2, e3⟩ := ns_small h4
  have e4 : smallL ks = true := smallL_all fun x hx => by
    obtain ⟨b, hb⟩ := rightL_each h2 x hx
    exact ih x hx hb
  rw [smallN, e3, e4]
  simp [e1, e2]
theorem small_check {t : Nd} (h : checkN t = 0) : smallN t = true := by
  unfold checkN at h
  split at h
  · cases h
  · split at h
    · rename_i hr
      exact small_right hr
    · cases h

end Go.Proofs.YtgdbaceehpcgbaaDoor
