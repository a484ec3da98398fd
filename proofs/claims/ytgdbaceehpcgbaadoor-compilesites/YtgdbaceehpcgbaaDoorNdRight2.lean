/- What is asked of a node of each kind. -/
import Derived.Test.YtgdbaceehpcgbaaDoorJoint4
namespace Go.Proofs.YtgdbaceehpcgbaaDoor
open Go.RowKit

/-- a node is like its copy with just the fields of its kind -/
def bareB (k o n : Int) (s : ByteArray) (ns : List ByteArray) (c : Nat) : Bool :=
  alikeB k o n s ns c k (cond (hasOpK k) o 0) (cond (hasNumK k) n 0) (cond (hasStrK k) s ⟨#[]⟩) (cond (hasNsK k) ns []) (cond (leafK k) 0 c)

theorem str_none (s : ByteArray) : (s.data.toList == (⟨#[]⟩ : ByteArray).data.toList) = decide (s.size = 0) := by
  have e : s.size = s.data.toList.length := by simp
  rw [Bool.eq_iff_iff, beq_iff_eq, decide_eq_true_iff, e, List.length_eq_zero_iff]
theorem ns_none (ns : List ByteArray) : namesB ns [] = decide (ns.length = 0) := by
  unfold namesB
  cases ns <;> rfl
theorem ns_self (ns : List ByteArray) : namesB ns ns = true := by simp [namesB]

theorem bareB_eq (k o n : Int) (s : ByteArray) (ns : List ByteArray) (c : Nat) : bareB k o n s ns c =
    (cond (hasOpK k) true (decide (o = 0)) && (cond (hasNumK k) true (decide (n = 0)) && (cond (hasStrK k) true (decide (s.size = 0)) && (cond (hasNsK k) true (decide (ns.length = 0)) && cond (leafK k) (decide (c = 0)) true)))) := by
  unfold bareB alikeB
  rw [beq_self_eq_true, Bool.true_and]
  congr 1
  · cases hasOpK k
    · rw [Bool.eq_iff_iff]; simp
    · simp
  congr 1
  · cases hasNumK k
    · rw [Bool.eq_iff_iff]; simp
    · simp
  congr 1
  · cases hasStrK k
    · exact str_none s
    · simp
  congr 1
  · cases hasNsK k
    · exact ns_none ns
    · exact ns_self ns
  · cases leafK k
    · simp
    · rw [Bool.eq_iff_iff]; simp

theorem sign_some (o : Int) : (signT o != []) = decide (1 ≤ o ∧ o ≤ 11) := by
  by_cases h : 0 ≤ o ∧ o ≤ 11
  · obtain rfl | rfl | rfl | rfl | rfl | rfl | rfl | rfl | rfl | rfl | rfl | rfl : o = 0 ∨ o = 1 ∨ o = 2 ∨ o = 3 ∨ o = 4 ∨ o = 5 ∨ o = 6 ∨ o = 7 ∨ o = 8 ∨ o = 9 ∨ o = 10 ∨ o = 11 := by omega
    all_goals rfl
  · rw [decide_eq_false (by omega)]
    have : signT o = [] := by
      unfold signT
      by_cases h0 : o < 0
      · rw [if_pos h0]
      · rw [if_neg h0, List.getD_eq_getElem?_getD, List.getElem?_eq_none (by simp [tsgnL]; omega)]; rfl
    rw [this]; rfl
theorem r2_built_some (o : Int) : decide (0 < (builtT o).2) = decide (1 ≤ o ∧ o ≤ 7) := by
  by_cases h : 0 ≤ o ∧ o ≤ 7
  · obtain rfl | rfl | rfl | rfl | rfl | rfl | rfl | rfl : o = 0 ∨ o = 1 ∨ o = 2 ∨ o = 3 ∨ o = 4 ∨ o = 5 ∨ o = 6 ∨ o = 7 := by omega
    all_goals rfl
  · rw [show decide (1 ≤ o ∧ o ≤ 7) = false from decide_eq_false (by omega)]
    have : builtT o = ([], 0) := by
      unfold builtT
      by_cases h0 : o < 0
      · rw [if_pos h0]
      · rw [if_neg h0, List.getD_eq_getElem?_getD, List.getElem?_eq_none (by simp [builtL]; omega)]; rfl
    rw [this]; rfl

theorem right1 (o n : Int) (s : ByteArray) (ns : List ByteArray) (ks : List Nd) (p : Int) : rightN (.mk 1 o n s ns ks p) 1 = (bareB 1 o n s ns ks.length && true) := by
  rw [rightN_mk, bareB_eq]
  cases ks with
  | nil =>
    have e : rightL [] 1 0 = true := by rw [rightL]
    rw [e]
    simp [isK, okB, opOk, numOk, strOk, nsOk, cntOk, hasOpK, hasNumK, hasStrK, hasNsK, leafK]
    try (rw [Bool.eq_iff_iff]; simp; grind)
  | cons x r =>
    simp [isK, okB, opOk, numOk, strOk, nsOk, cntOk, hasOpK, hasNumK, hasStrK, hasNsK, leafK]

theorem right6 (o n : Int) (s : ByteArray) (ns : List ByteArray) (ks : List Nd) (p : Int) : rightN (.mk 6 o n s ns ks p) 1 = (bareB 6 o n s ns ks.length && true) := by
  rw [rightN_mk, bareB_eq]
  cases ks with
  | nil =>
    have e : rightL [] 6 0 = true := by rw [rightL]
    rw [e]
    simp [isK, okB, opOk, numOk, strOk, nsOk, cntOk, hasOpK, hasNumK, hasStrK, hasNsK, leafK]
    try (rw [Bool.eq_iff_iff]; simp; grind)
  | cons x r =>
    simp [isK, okB, opOk, numOk, strOk, nsOk, cntOk, hasOpK, hasNumK, hasStrK, hasNsK, leafK]

theorem right2 (o n : Int) (s : ByteArray) (ns : List ByteArray) (ks : List Nd) (p : Int) : rightN (.mk 2 o n s ns ks p) 1 = (bareB 2 o n s ns ks.length && (decide (n = 0) || decide (n = 1))) := by
  rw [rightN_mk, bareB_eq]
  cases ks with
  | nil =>
    have e : rightL [] 2 0 = true := by rw [rightL]
    rw [e]
    simp [isK, okB, opOk, numOk, strOk, nsOk, cntOk, hasOpK, hasNumK, hasStrK, hasNsK, leafK]
    try (rw [Bool.eq_iff_iff]; simp; grind)
  | cons x r =>
    simp [isK, okB, opOk, numOk, strOk, nsOk, cntOk, hasOpK, hasNumK, hasStrK, hasNsK, leafK]

theorem right3 (o n : Int) (s : ByteArray) (ns : List ByteArray) (ks : List Nd) (p : Int) : rightN (.mk 3 o n s ns ks p) 1 = (bareB 3 o n s ns ks.length && (decide (0 ≤ n) && decide (n ≤ 4611686018427387903))) := by
  rw [rightN_mk, bareB_eq]
  cases ks with
  | nil =>
    have e : rightL [] 3 0 = true := by rw [rightL]
    rw [e]
    simp [isK, okB, opOk, numOk, strOk, nsOk, cntOk, hasOpK, hasNumK, hasStrK, hasNsK, leafK]
    try (rw [Bool.eq_iff_iff]; simp; grind)
  | cons x r =>
    simp [isK, okB, opOk, numOk, strOk, nsOk, cntOk, hasOpK, hasNumK, hasStrK, hasNsK, leafK]

theorem right4 (o n : Int) (s : ByteArray) (ns : List ByteArray) (ks : List Nd) (p : Int) : rightN (.mk 4 o n s ns ks p) 1 = (bareB 4 o n s ns ks.length && decide (s.size ≤ 256)) := by
  rw [rightN_mk, bareB_eq]
  cases ks with
  | nil =>
    have e : rightL [] 4 0 = true := by rw [rightL]
    rw [e]
    simp [isK, okB, opOk, numOk, strOk, nsOk, cntOk, hasOpK, hasNumK, hasStrK, hasNsK, leafK]
    try (rw [Bool.eq_iff_iff]; simp; grind)
  | cons x r =>
    simp [isK, okB, opOk, numOk, strOk, nsOk, cntOk, hasOpK, hasNumK, hasStrK, hasNsK, leafK]

theorem right5 (o n : Int) (s : ByteArray) (ns : List ByteArray) (ks : List Nd) (p : Int) : rightN (.mk 5 o n s ns ks p) 1 = (bareB 5 o n s ns ks.length && properB s) := by
  rw [rightN_mk, bareB_eq]
  cases ks with
  | nil =>
    have e : rightL [] 5 0 = true := by rw [rightL]
    rw [e]
    simp [isK, okB, opOk, numOk, strOk, nsOk, cntOk, hasOpK, hasNumK, hasStrK, hasNsK, leafK]
    try (rw [Bool.eq_iff_iff]; simp; grind)
  | cons x r =>
    simp [isK, okB, opOk, numOk, strOk, nsOk, cntOk, hasOpK, hasNumK, hasStrK, hasNsK, leafK]

theorem right7 (o n : Int) (s : ByteArray) (ns : List ByteArray) (ks : List Nd) (p : Int) : rightN (.mk 7 o n s ns ks p) 1 = (bareB 7 o n s ns ks.length && (decide (ns.length = ks.length) && ((decide (ns.length ≤ 40) && ns.all propB) && (decide (ks.length ≤ 40) && (!ks.any fun x => !rightN x 1))))) := by
  rw [rightN_mk, bareB_eq]
  rw [rightL_all (a := 1) (by intro i; simp [wantK])]
  generalize (!ks.any fun x => !rightN x 1) = b
  simp [isK, okB, opOk, numOk, strOk, nsOk, cntOk, hasOpK, hasNumK, hasStrK, hasNsK, leafK]
  try (rw [Bool.eq_iff_iff]; simp; grind)

theorem right8 (o n : Int) (s : ByteArray) (ns : List ByteArray) (ks : List Nd) (p : Int) : rightN (.mk 8 o n s ns ks p) 1 = (bareB 8 o n s ns ks.length && ((decide (ns.length ≤ 6) && ns.all properB) && (decide (ks.length ≤ 40) && (!ks.any fun x => !rightN x 2)))) := by
  rw [rightN_mk, bareB_eq]
  rw [rightL_all (a := 2) (by intro i; simp [wantK])]
  generalize (!ks.any fun x => !rightN x 2) = b
  simp [isK, okB, opOk, numOk, strOk, nsOk, cntOk, hasOpK, hasNumK, hasStrK, hasNsK, leafK]
  try (rw [Bool.eq_iff_iff]; simp; grind)

theorem right9 (o n : Int) (s : ByteArray) (ns : List ByteArray) (ks : List Nd) (p : Int) : rightN (.mk 9 o n s ns ks p) 1 = (bareB 9 o n s ns ks.length && ((decide (o = 1) || decide (o = 2)) && (decide (ks.length = 1) && (!ks.any fun x => !rightN x 1)))) := by
  rw [rightN_mk, bareB_eq]
  rw [rightL_all (a := 1) (by intro i; simp [wantK])]
  generalize (!ks.any fun x => !rightN x 1) = b
  simp [isK, okB, opOk, numOk, strOk, nsOk, cntOk, hasOpK, hasNumK, hasStrK, hasNsK, leafK]
  try (rw [Bool.eq_iff_iff]; simp; grind)

theorem right10 (o n : Int) (s : ByteArray) (ns : List ByteArray) (ks : List Nd) (p : Int) : rightN (.mk 10 o n s ns ks p) 1 = (bareB 10 o n s ns ks.length && ((signT o != []) && (decide (ks.length = 2) && (!ks.any fun x => !rightN x 1)))) := by
  rw [rightN_mk, bareB_eq]
  rw [rightL_all (a := 1) (by intro i; simp [wantK])]
  rw [sign_some]
  generalize (!ks.any fun x => !rightN x 1) = b
  simp [isK, okB, opOk, numOk, strOk, nsOk, cntOk, hasOpK, hasNumK, hasStrK, hasNsK, leafK]
  try (rw [Bool.eq_iff_iff]; simp; grind)

theorem right11 (o n : Int) (s : ByteArray) (ns : List ByteArray) (ks : List Nd) (p : Int) : rightN (.mk 11 o n s ns ks p) 1 = (bareB 11 o n s ns ks.length && (decide (ks.length = 2) && (!ks.any fun x => !rightN x 1))) := by
  rw [rightN_mk, bareB_eq]
  rw [rightL_all (a := 1) (by intro i; simp [wantK])]
  generalize (!ks.any fun x => !rightN x 1) = b
  simp [isK, okB, opOk, numOk, strOk, nsOk, cntOk, hasOpK, hasNumK, hasStrK, hasNsK, leafK]
  try (rw [Bool.eq_iff_iff]; simp; grind)

theorem right12 (o n : Int) (s : ByteArray) (ns : List ByteArray) (ks : List Nd) (p : Int) : rightN (.mk 12 o n s ns ks p) 1 = (bareB 12 o n s ns ks.length && (decide (ks.length = 2) && (!ks.any fun x => !rightN x 1))) := by
  rw [rightN_mk, bareB_eq]
  rw [rightL_all (a := 1) (by intro i; simp [wantK])]
  generalize (!ks.any fun x => !rightN x 1) = b
  simp [isK, okB, opOk, numOk, strOk, nsOk, cntOk, hasOpK, hasNumK, hasStrK, hasNsK, leafK]
  try (rw [Bool.eq_iff_iff]; simp; grind)

theorem right14 (o n : Int) (s : ByteArray) (ns : List ByteArray) (ks : List Nd) (p : Int) : rightN (.mk 14 o n s ns ks p) 1 = (bareB 14 o n s ns ks.length && (decide (ks.length = 2) && (!ks.any fun x => !rightN x 1))) := by
  rw [rightN_mk, bareB_eq]
  rw [rightL_all (a := 1) (by intro i; simp [wantK])]
  generalize (!ks.any fun x => !rightN x 1) = b
  simp [isK, okB, opOk, numOk, strOk, nsOk, cntOk, hasOpK, hasNumK, hasStrK, hasNsK, leafK]
  try (rw [Bool.eq_iff_iff]; simp; grind)

theorem right13 (o n : Int) (s : ByteArray) (ns : List ByteArray) (ks : List Nd) (p : Int) : rightN (.mk 13 o n s ns ks p) 1 = (bareB 13 o n s ns ks.length && (propB s && (decide (ks.length = 1) && (!ks.any fun x => !rightN x 1)))) := by
  rw [rightN_mk, bareB_eq]
  rw [rightL_all (a := 1) (by intro i; simp [wantK])]
  generalize (!ks.any fun x => !rightN x 1) = b
  simp [isK, okB, opOk, numOk, strOk, nsOk, cntOk, hasOpK, hasNumK, hasStrK, hasNsK, leafK]
  try (rw [Bool.eq_iff_iff]; simp; grind)

theorem right15 (o n : Int) (s : ByteArray) (ns : List ByteArray) (ks : List Nd) (p : Int) : rightN (.mk 15 o n s ns ks p) 1 = (bareB 15 o n s ns ks.length && (decide (1 ≤ ks.length ∧ ks.length ≤ 7) && (!ks.any fun x => !rightN x 1))) := by
  rw [rightN_mk, bareB_eq]
  rw [rightL_all (a := 1) (by intro i; simp [wantK])]
  generalize (!ks.any fun x => !rightN x 1) = b
  simp [isK, okB, opOk, numOk, strOk, nsOk, cntOk, hasOpK, hasNumK, hasStrK, hasNsK, leafK]
  try (rw [Bool.eq_iff_iff]; simp; grind)

theorem right16 (o n : Int) (s : ByteArray) (ns : List ByteArray) (ks : List Nd) (p : Int) : rightN (.mk 16 o n s ns ks p) 1 = (bareB 16 o n s ns ks.length && (propB s && (decide (1 ≤ ks.length ∧ ks.length ≤ 7) && (!ks.any fun x => !rightN x 1)))) := by
  rw [rightN_mk, bareB_eq]
  rw [rightL_all (a := 1) (by intro i; simp [wantK])]
  generalize (!ks.any fun x => !rightN x 1) = b
  simp [isK, okB, opOk, numOk, strOk, nsOk, cntOk, hasOpK, hasNumK, hasStrK, hasNsK, leafK]
  try (rw [Bool.eq_iff_iff]; simp; grind)

theorem right17 (o n : Int) (s : ByteArray) (ns : List ByteArray) (ks : List Nd) (p : Int) : rightN (.mk 17 o n s ns ks p) 1 = (bareB 17 o n s ns ks.length && (decide (0 < (builtT o).2) && (decide (ks.length = (builtT o).2) && (!ks.any fun x => !rightN x 1)))) := by
  rw [rightN_mk, bareB_eq]
  rw [rightL_all (a := 1) (by intro i; simp [wantK])]
  rw [r2_built_some]
  generalize (!ks.any fun x => !rightN x 1) = b
  simp [isK, okB, opOk, numOk, strOk, nsOk, cntOk, hasOpK, hasNumK, hasStrK, hasNsK, leafK]
  try (rw [Bool.eq_iff_iff]; simp; grind)

theorem right21 (o n : Int) (s : ByteArray) (ns : List ByteArray) (ks : List Nd) (p : Int) : rightN (.mk 21 o n s ns ks p) 2 = (bareB 21 o n s ns ks.length && (properB s && (decide (ks.length = 1) && (!ks.any fun x => !rightN x 1)))) := by
  rw [rightN_mk, bareB_eq]
  rw [rightL_all (a := 1) (by intro i; simp [wantK])]
  generalize (!ks.any fun x => !rightN x 1) = b
  simp [isK, okB, opOk, numOk, strOk, nsOk, cntOk, hasOpK, hasNumK, hasStrK, hasNsK, leafK]
  try (rw [Bool.eq_iff_iff]; simp; grind)

theorem right22 (o n : Int) (s : ByteArray) (ns : List ByteArray) (ks : List Nd) (p : Int) : rightN (.mk 22 o n s ns ks p) 2 = (bareB 22 o n s ns ks.length && (properB s && (decide (ks.length = 1) && (!ks.any fun x => !rightN x 1)))) := by
  rw [rightN_mk, bareB_eq]
  rw [rightL_all (a := 1) (by intro i; simp [wantK])]
  generalize (!ks.any fun x => !rightN x 1) = b
  simp [isK, okB, opOk, numOk, strOk, nsOk, cntOk, hasOpK, hasNumK, hasStrK, hasNsK, leafK]
  try (rw [Bool.eq_iff_iff]; simp; grind)

theorem right23 (o n : Int) (s : ByteArray) (ns : List ByteArray) (ks : List Nd) (p : Int) : rightN (.mk 23 o n s ns ks p) 2 = (bareB 23 o n s ns ks.length && (propB s && (decide (ks.length = 2) && (!ks.any fun x => !rightN x 1)))) := by
  rw [rightN_mk, bareB_eq]
  rw [rightL_all (a := 1) (by intro i; simp [wantK])]
  generalize (!ks.any fun x => !rightN x 1) = b
  simp [isK, okB, opOk, numOk, strOk, nsOk, cntOk, hasOpK, hasNumK, hasStrK, hasNsK, leafK]
  try (rw [Bool.eq_iff_iff]; simp; grind)

theorem right24 (o n : Int) (s : ByteArray) (ns : List ByteArray) (ks : List Nd) (p : Int) : rightN (.mk 24 o n s ns ks p) 2 = (bareB 24 o n s ns ks.length && (decide (ks.length = 3) && (!ks.any fun x => !rightN x 1))) := by
  rw [rightN_mk, bareB_eq]
  rw [rightL_all (a := 1) (by intro i; simp [wantK])]
  generalize (!ks.any fun x => !rightN x 1) = b
  simp [isK, okB, opOk, numOk, strOk, nsOk, cntOk, hasOpK, hasNumK, hasStrK, hasNsK, leafK]
  try (rw [Bool.eq_iff_iff]; simp; grind)

theorem right25 (o n : Int) (s : ByteArray) (ns : List ByteArray) (ks : List Nd) (p : Int) : rightN (.mk 25 o n s ns ks p) 2 = (bareB 25 o n s ns ks.length && (propB s && (decide (ks.length = 1) && (!ks.any fun x => !rightN x 1)))) := by
  rw [rightN_mk, bareB_eq]
  rw [rightL_all (a := 1) (by intro i; simp [wantK])]
  generalize (!ks.any fun x => !rightN x 1) = b
  simp [isK, okB, opOk, numOk, strOk, nsOk, cntOk, hasOpK, hasNumK, hasStrK, hasNsK, leafK]
  try (rw [Bool.eq_iff_iff]; simp; grind)

theorem right26 (o n : Int) (s : ByteArray) (ns : List ByteArray) (ks : List Nd) (p : Int) : rightN (.mk 26 o n s ns ks p) 2 = (bareB 26 o n s ns ks.length && (decide (ks.length = 2) && (!ks.any fun x => !rightN x 1))) := by
  rw [rightN_mk, bareB_eq]
  rw [rightL_all (a := 1) (by intro i; simp [wantK])]
  generalize (!ks.any fun x => !rightN x 1) = b
  simp [isK, okB, opOk, numOk, strOk, nsOk, cntOk, hasOpK, hasNumK, hasStrK, hasNsK, leafK]
  try (rw [Bool.eq_iff_iff]; simp; grind)

theorem right27 (o n : Int) (s : ByteArray) (ns : List ByteArray) (ks : List Nd) (p : Int) : rightN (.mk 27 o n s ns ks p) 2 = (bareB 27 o n s ns ks.length && (decide (ks.length = 1) && (!ks.any fun x => !rightN x 1))) := by
  rw [rightN_mk, bareB_eq]
  rw [rightL_all (a := 1) (by intro i; simp [wantK])]
  generalize (!ks.any fun x => !rightN x 1) = b
  simp [isK, okB, opOk, numOk, strOk, nsOk, cntOk, hasOpK, hasNumK, hasStrK, hasNsK, leafK]
  try (rw [Bool.eq_iff_iff]; simp; grind)

theorem right31 (o n : Int) (s : ByteArray) (ns : List ByteArray) (ks : List Nd) (p : Int) : rightN (.mk 31 o n s ns ks p) 2 = (bareB 31 o n s ns ks.length && (decide (ks.length = 1) && (!ks.any fun x => !rightN x 1))) := by
  rw [rightN_mk, bareB_eq]
  rw [rightL_all (a := 1) (by intro i; simp [wantK])]
  generalize (!ks.any fun x => !rightN x 1) = b
  simp [isK, okB, opOk, numOk, strOk, nsOk, cntOk, hasOpK, hasNumK, hasStrK, hasNsK, leafK]
  try (rw [Bool.eq_iff_iff]; simp; grind)

theorem right32 (o n : Int) (s : ByteArray) (ns : List ByteArray) (ks : List Nd) (p : Int) : rightN (.mk 32 o n s ns ks p) 2 = (bareB 32 o n s ns ks.length && (decide (ks.length = 1) && (!ks.any fun x => !rightN x 1))) := by
  rw [rightN_mk, bareB_eq]
  rw [rightL_all (a := 1) (by intro i; simp [wantK])]
  generalize (!ks.any fun x => !rightN x 1) = b
  simp [isK, okB, opOk, numOk, strOk, nsOk, cntOk, hasOpK, hasNumK, hasStrK, hasNsK, leafK]
  try (rw [Bool.eq_iff_iff]; simp; grind)

theorem right29 (o n : Int) (s : ByteArray) (ns : List ByteArray) (ks : List Nd) (p : Int) : rightN (.mk 29 o n s ns ks p) 3 = (bareB 29 o n s ns ks.length && (decide (ks.length ≤ 40) && (!ks.any fun x => !rightN x 2))) := by
  rw [rightN_mk, bareB_eq]
  rw [rightL_all (a := 2) (by intro i; simp [wantK])]
  generalize (!ks.any fun x => !rightN x 2) = b
  simp [isK, okB, opOk, numOk, strOk, nsOk, cntOk, hasOpK, hasNumK, hasStrK, hasNsK, leafK]
  try (rw [Bool.eq_iff_iff]; simp; grind)

end Go.Proofs.YtgdbaceehpcgbaaDoor
