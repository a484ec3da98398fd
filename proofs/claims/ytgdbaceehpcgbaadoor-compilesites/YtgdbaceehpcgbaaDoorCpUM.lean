/- What the program makes of a unit. -/
import Derived.Test.YtgdbaceehpcgbaaDoorCpFun
import Derived.Test.YtgdbaceehpcgbaaDoorJoint16
import Derived.Test.YtgdbaceehpcgbaaDoorJoint17
import Derived.Test.YtgdbaceehpcgbaaDoorScCheck
import Derived.Test.YtgdbaceehpcgbaaDoorJoint23
namespace Go.Proofs.YtgdbaceehpcgbaaDoor
set_option linter.unusedSimpArgs false
open Go.RowKit

theorem elCode : Elem 28 41 5 56 := elem_of (z0 := .agg #[.int .i64 0, .int .i64 0, .int .i64 0, .int .i64 0, .slice none 0 0]) (by kernel_rfl) (by kernel_rfl) rfl
/-- an error of a code -/
def roomC (d : Int) (n : Nat) : Int := if 4000 < n then 5 else if 64 < d then 13 else 0
theorem room_calls (w : World) (p l s d : Int) (ia : Option Addr) (n ic : Nat) :
    Calls Tryd.prog 20 #[.agg #[.int .i64 p, .int .i64 l, .int .i64 s, .int .i64 d, .slice ia n ic]] w fun e w' => e = .returned (.int .i64 (roomC d n)) ∧ Below w.heap.size w w' := by
  have A := hid (box_below w (.cells #[.int .i64 p, .int .i64 l, .int .i64 s, .int .i64 d, .slice ia n ic] 41))
  unfold roomC
  by_cases h1 : 4000 < n
  · have d1 : decide ((4000 : Int) < (n : Int)) = true := decide_eq_true (by omega)
    rw [if_pos h1]
    go_enter Tryd.func20, Tryd.ntmps20
    go_wp2_with fail
    go_ret
    exact ⟨rfl, A.out⟩
  · have d1 : decide ((4000 : Int) < (n : Int)) = false := decide_eq_false (by omega)
    rw [if_neg h1]
    by_cases h2 : 64 < d
    · have d2 : decide ((64 : Int) < d) = true := decide_eq_true h2
      rw [if_pos h2]
      go_enter Tryd.func20, Tryd.ntmps20
      go_wp2_with fail
      go_ret
      exact ⟨rfl, A.out⟩
    · have d2 : decide ((64 : Int) < d) = false := decide_eq_false h2
      rw [if_neg h2]
      go_enter Tryd.func20, Tryd.ntmps20
      go_wp2_with fail
      go_ret
      exact ⟨rfl, A.out⟩
/-! the codes made so far -/
def cdsC : List (Cd × Value) → List Value
  | [] => []
  | x :: r => .int .i64 x.1.p :: .int .i64 x.1.l :: .int .i64 x.1.s :: .int .i64 x.1.d :: x.2 :: cdsC r
theorem cdsC_app : ∀ a b : List (Cd × Value), cdsC (a ++ b) = cdsC a ++ cdsC b
  | [], b => rfl
  | x :: r, b => by rw [List.cons_append, cdsC, cdsC, cdsC_app r b]; rfl
theorem cdsC_at : ∀ {l : List (Cd × Value)} {i : Nat} {x : Cd × Value}, l[i]? = some x → (cdsC l)[5 * i]? = some (.int .i64 x.1.p) ∧ (cdsC l)[5 * i + 1]? = some (.int .i64 x.1.l) ∧ (cdsC l)[5 * i + 2]? = some (.int .i64 x.1.s) ∧ (cdsC l)[5 * i + 3]? = some (.int .i64 x.1.d) ∧ (cdsC l)[5 * i + 4]? = some x.2
  | y :: r, 0, x, h => by
    obtain rfl : y = x := by simpa using h
    exact ⟨rfl, rfl, rfl, rfl, rfl⟩
  | y :: r, i + 1, x, h => by
    have := cdsC_at (l := r) (i := i) (x := x) (by simpa using h)
    rw [show 5 * (i + 1) = 5 * i + 1 + 1 + 1 + 1 + 1 by omega, show 5 * i + 1 + 1 + 1 + 1 + 1 + 1 = (5 * i + 1) + 1 + 1 + 1 + 1 + 1 by omega, show 5 * i + 1 + 1 + 1 + 1 + 1 + 2 = (5 * i + 2) + 1 + 1 + 1 + 1 + 1 by omega, show 5 * i + 1 + 1 + 1 + 1 + 1 + 3 = (5 * i + 3) + 1 + 1 + 1 + 1 + 1 by omega, show 5 * i + 1 + 1 + 1 + 1 + 1 + 4 = (5 * i + 4) + 1 + 1 + 1 + 1 + 1 by omega]
    simpa [cdsC] using this
/-- codes in a row of one's own, apart from T -/
structure CdsK (T : Nat → Prop) (w : World) (v : Value) (xs : List (Cd × Value)) : Prop where
  row : w.ownsRow 0 41 5 v xs.length (cdsC xs)
  off : ∀ b, v.ownBlock = some b → ¬ T b
  ins : ∀ x ∈ xs, InsK T w x.2 x.1.ins
theorem CdsK.keep {S T U : Nat → Prop} {a c : World} {v : Value} {xs : List (Cd × Value)} (h : CdsK S a v xs) (k : Keep U a c) (hU : ∀ b, b < a.heap.size → ¬ S b → ¬ U b) (hT : ∀ b, b < a.heap.size → T b → S b) : CdsK T c v xs := by
  have hr : ∀ b, v.ownBlock = some b → b < a.heap.size := fun b hb => by
    obtain ⟨cur, hc⟩ := row_lt h.row hb
    exact blk_lt hc
  exact ⟨row_keep h.row fun b hb => k.block b (hr b hb) (hU b (hr b hb) (h.off b hb)), fun b hb q => h.off b hb (hT b (hr b hb) q), fun x hx => (h.ins x hx).keep k (fun b _ hb hs => hU b (blk_lt hb) hs) hT⟩
/-- one more -/
theorem CdsK.more {T : Nat → Prop} {w w' : World} {v iv : Value} {xs : List (Cd × Value)} {c : Cd} {g cap : Nat} (h : CdsK T w v xs) (hI : InsK T w iv c.ins)
    (hown : w'.ownsRow 0 41 5 (.slice (some ⟨g, 0, none⟩) (xs.length + 1) cap) (xs.length + 1) (cdsC xs ++ [.int .i64 c.p, .int .i64 c.l, .int .i64 c.s, .int .i64 c.d, iv])) (hgrow : w.grownBy w' v.ownBlock) (hat : v.ownBlock = some g ∨ w.heap.size ≤ g) (hT : ∀ b, T b → b < w.heap.size) :
    CdsK T w' (.slice (some ⟨g, 0, none⟩) (xs.length + 1) cap) (xs ++ [(c, iv)]) := by
  have hk : ∀ b cs, Blk b 51 cs w → ¬ T b → ¬ (v.ownBlock = some b) := fun b cs hb _ e => by
    obtain ⟨cur, hc⟩ := row_lt h.row e
    exact blk_apart hb hc (by decide) rfl
  have K : Keep (fun b => v.ownBlock = some b) w w' := Keep.grown hgrow (fun k hk => hk)
  refine ⟨?_, fun b hb => ?_, fun x hx => ?_⟩
  · rw [cdsC_app, List.length_append]
    exact hown
  · simp [Value.ownBlock] at hb
    subst hb
    rcases hat with h1 | h1
    · exact h.off _ h1
    · intro q
      have := hT _ q
      omega
  · rcases List.mem_append.1 hx with hx | hx
    · exact (h.ins x hx).keep K hk (fun _ _ q => q)
    · rw [List.mem_singleton.1 hx]
      exact hI.keep K hk (fun _ _ q => q)
/-- as codes that came -/
theorem CdsK.cds {T : Nat → Prop} {w : World} {v : Value} {xs : List (Cd × Value)} (h : CdsK T w v xs) : CdsIn w.heap.size w v (xs.map Prod.fst) := by
  rcases Nat.eq_zero_or_pos xs.length with h0 | h0
  · obtain ⟨ao, cap, e⟩ := row_shape h.row
    have hx := List.length_eq_zero_iff.1 h0
    subst hx
    exact .inl ⟨ao, cap, e, rfl⟩
  · obtain ⟨g, cap, rfl, _, hg⟩ := h.row.form h0
    refine .inr ⟨g, 0, cap, by simp, hg, fun i c hc => ?_⟩
    rw [List.getElem?_map] at hc
    obtain ⟨x, hx, rfl⟩ := Option.map_eq_some_iff.1 hc
    obtain ⟨h1, h2, h3, h4, h5⟩ := cdsC_at hx
    rw [Nat.zero_add, Nat.mul_comm]
    exact ⟨x.2, row_cell h.row h1, row_cell h.row h2, row_cell h.row h3, row_cell h.row h4, row_cell h.row h5, (h.ins x (List.mem_of_getElem? hx)).ins⟩
/-! what is left of functions -/
def Cz.pre (d : List Cd) : Cz → Cz
  | .bad e => .bad e
  | .ok cs M => .ok (d ++ cs) M
theorem pre_nil (z : Cz) : z.pre [] = z := by cases z <;> rfl
theorem pre_pre (d : List Cd) (c : Cd) (z : Cz) : (z.pre [c]).pre d = z.pre (d ++ [c]) := by cases z <;> simp [Cz.pre]
theorem fnsC_step (f : Int × Int × List Nd) (r : List (Int × Int × List Nd)) (L : List ByteArray) : fnsC (f :: r) L = if roomC (deepC (bodyC f.2.2 L).1) (bodyC f.2.2 L).1.length ≠ 0 then .bad (roomC (deepC (bodyC f.2.2 L).1) (bodyC f.2.2 L).1.length) else (fnsC r (bodyC f.2.2 L).2.1).pre [codeC f L] := by
  rw [fnsC]
  unfold roomC
  split
  · rfl
  · split
    · rfl
    · rw [if_neg (by simp)]
      cases fnsC r (bodyC f.2.2 L).2.1 <;> rfl
theorem fns_right {G F : Int} : ∀ {fs : List (Int × Int × List Nd)} {i : Nat}, fnsB G F fs i = true → ∀ f ∈ fs, (f.2.2.all fun x => rightD (f.2.1, G, F) x 2) = true
  | [], _, _, f, hf => by cases hf
  | g :: r, i, h, f, hf => by
    rw [fnsB, Bool.and_eq_true, Bool.and_eq_true] at h
    obtain ⟨⟨_, hb⟩, hr⟩ := h
    rcases List.mem_cons.1 hf with rfl | hf
    · rw [← body_same] at hb
      unfold bodyD at hb
      rw [Bool.and_eq_true] at hb
      exact hb.2
    · exact fns_right hr f hf
end Go.Proofs.YtgdbaceehpcgbaaDoor
