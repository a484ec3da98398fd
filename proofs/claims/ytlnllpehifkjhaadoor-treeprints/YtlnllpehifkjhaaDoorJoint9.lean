/- Whether a tree may be a program. How long a text can be. -/
import Derived.Test.YtlnllpehifkjhaaDoorTreeStmt
import Derived.Test.YtlnllpehifkjhaaDoorJoint5
namespace Go.Proofs.YtlnllpehifkjhaaDoor
open Go.RowKit

set_option maxHeartbeats 1600000 in
theorem check_tree (x : Nd) (B : Nat) (w : World) (nv kv : Value) (hO : Hid (Ok B w)) (hN : Hid (NdIn B w x nv kv)) (hs : smallN x = true) (hc : countN x ≤ 1000000) :
    Calls Tryd.prog 9 #[.agg #[.int .i64 x.kind, .int .i64 x.op, .int .i64 x.num, .string x.str, nv, kv, .int .i64 x.pl]] w fun e w' =>
      e = .returned (.int .i64 (checkN x)) ∧ Below w.heap.size w w' := by
  obtain ⟨a1, q1, a2, q2, rfl, rfl⟩ := ndIn_shape hN.out
  have hal := (Below.refl w.heap.size w).alloc (Nat.le_refl _) (.cells #[.int .i64 x.kind, .int .i64 x.op, .int .i64 x.num, .string x.str, .slice a1 x.names.length q1, .slice a2 x.kids.length q2, .int .i64 x.pl] 25)
  have hB := hO.out.1
  have AL := hid hal
  have N := hid (ndIn_on (hal.mono hB) _ _ _ hN.out)
  have O := hid (ok_on hO.out (hal.mono hB))
  have X := hid (box_new w x.kind x.op x.num x.str (.slice a1 x.names.length q1) (.slice a2 x.kids.length q2) x.pl)
  have HS := hid hs
  have H := hid (show checkN x = if decide (12 < highN x) then 13 else if rightN x 3 then 0 else 2 by unfold checkN; simp only [decide_eq_true_eq])
  clear hal hN hO hs
  go_enter Tryd.func9, Tryd.ntmps9
  go_wp2_with fail
  refine (higher_calls x B _ _ _ 12 (by simp; omega) N hc (by omega)).mono ?_
  rintro e w1 ⟨rfl, b1⟩
  have B1 := hid (below_in AL.out (by simp) b1)
  have bq : Below B _ w1 := b1.mono (by simp; omega)
  have N1 := hid (ndIn_on bq _ _ _ N.out)
  have O1 := hid (ok_on O.out bq)
  obtain ⟨c0, c1, c2, c3, c4, c5, c6⟩ := box_cells (box_on X.out b1)
  clear b1 bq N O X AL
  generalize decide (12 < highN x) = hb at *
  cases hb
  · go_wp2_with fail
    refine ((right_calls x).2.2 B _ _ _ O1 N1 HS.out hc).mono ?_
    rintro e w2 ⟨rfl, b2⟩
    have B2 := hid (below_in B1.out (Nat.le_refl _) b2)
    clear b2 B1 N1 O1
    generalize rightN x 3 = rb at *
    cases rb
    · go_wp2_with fail
      go_ret
      exact ⟨by rw [H.out]; rfl, B2.out⟩
    · go_wp2_with fail
      go_ret
      exact ⟨by rw [H.out]; rfl, B2.out⟩
  · go_wp2_with fail
    go_ret
    exact ⟨by rw [H.out]; rfl, B1.out⟩

end Go.Proofs.YtlnllpehifkjhaaDoor

namespace Go.Proofs.YtlnllpehifkjhaaDoor
open Go.RowKit

def mx (t : Tx) : Nat := max t.e.length (max t.s.length t.b.length)
def sum4 (l : List Tx) : Nat := (l.map fun t => mx t + 4).sum
theorem mx_e (t : Tx) : t.e.length ≤ mx t := by unfold mx; omega
theorem mx_s (t : Tx) : t.s.length ≤ mx t := by unfold mx; omega
theorem mx_b (t : Tx) : t.b.length ≤ mx t := by unfold mx; omega
theorem sum4_cons (t : Tx) (l : List Tx) : sum4 (t :: l) = mx t + 4 + sum4 l := by simp [sum4]
theorem commas_len : ∀ l : List Tx, (commasT l).length ≤ sum4 l
  | [] => by simp [commasT]
  | t :: l => by
    have := commas_len l
    have := mx_e t
    rw [sum4_cons]
    simp only [commasT, List.flatMap_cons, List.length_append, List.length_cons] at *
    omega
theorem blanks_len : ∀ l : List Tx, (blanksT l).length ≤ sum4 l
  | [] => by simp [blanksT]
  | t :: l => by
    have := blanks_len l
    have := mx_s t
    rw [sum4_cons]
    simp only [blanksT, List.flatMap_cons, List.length_append, List.length_cons] at *
    omega
theorem list_len (l : List Tx) : (listT l).length ≤ sum4 l := by
  cases l with
  | nil => simp [listT]
  | cons t l =>
    have := commas_len l
    have := mx_e t
    rw [sum4_cons, listT, List.length_append]; omega
theorem args_len (l : List Tx) : (argsT l).length ≤ sum4 l + 2 := by
  have := list_len l
  unfold argsT; simp; omega
theorem block_len (l : List Tx) : (blockT l).length ≤ sum4 l + 3 := by
  have := blanks_len l
  unfold blockT
  split <;> simp <;> omega
theorem program_len (l : List Tx) : (programT l).length ≤ sum4 l := by
  cases l with
  | nil => simp [programT]
  | cons t l =>
    have := blanks_len l
    have := mx_s t
    rw [sum4_cons, programT, List.length_append]; omega
theorem at_len (l : List Tx) : mx (at0 l) + mx (at1 l) + mx (at2 l) ≤ sum4 l := by
  have hn : mx Tx.none = 0 := rfl
  match l with
  | [] => simp [at0, at1, at2, hn]
  | [x] => simp [at0, at1, at2, hn, sum4] <;> omega
  | [x, y] => simp [at0, at1, at2, hn, sum4] <;> omega
  | x :: y :: z :: r => simp [at0, at1, at2, sum4] <;> omega
theorem tail_len (l : List Tx) : mx (at0 l) + sum4 l.tail ≤ sum4 l := by
  have hn : mx Tx.none = 0 := rfl
  cases l with
  | nil => simp [at0, hn, sum4]
  | cons x r => rw [sum4_cons]; simp [at0] <;> omega
theorem tight_len (x : Tx) (r : Int) : (tightT x r).length ≤ mx x + 2 := by
  have := mx_e x
  unfold tightT; split
  · omega
  · simp; omega
theorem fields_len : ∀ (ns : List ByteArray) (l : List Tx), (∀ x ∈ ns, x.size ≤ 100) → (fieldsT ns l).length ≤ sum4 l + 102 * ns.length
  | [], l, _ => by simp [fieldsT]
  | s :: ns, [], _ => by simp [fieldsT]
  | s :: ns, t :: l, h => by
    have := fields_len ns l (fun x hx => h x (by simp [hx]))
    have h1 := h s (by simp)
    have := mx_e t
    have := list_size s
    rw [sum4_cons]
    simp only [fieldsT, fieldT, List.length_append, List.length_cons]
    omega
theorem obj_len (ns : List ByteArray) (l : List Tx) (h : ∀ x ∈ ns, x.size ≤ 100) (hn : ns.length ≤ 60) : (objT ns l).length ≤ sum4 l + 7000 := by
  cases ns with
  | nil => simp [objT]
  | cons s ns =>
    cases l with
    | nil => simp [objT]
    | cons t l =>
      have := fields_len ns l (fun x hx => h x (by simp [hx]))
      have h1 := h s (by simp)
      have := mx_e t
      have := list_size s
      rw [sum4_cons]
      simp only [List.length_cons] at hn
      simp only [objT, fieldT, List.length_append, List.length_cons, List.length_nil]
      omega
theorem join_len (ns : List ByteArray) (h : ∀ x ∈ ns, x.size ≤ 100) (hn : ns.length ≤ 60) : (joinT ns).length ≤ 7000 := by
  have key : ∀ ns : List ByteArray, (∀ x ∈ ns, x.size ≤ 100) → (ns.flatMap fun x => 44 :: 32 :: x.data.toList).length ≤ 102 * ns.length := by
    intro ns
    induction ns with
    | nil => intro _; simp
    | cons s ns ih =>
      intro h
      have := ih (fun x hx => h x (by simp [hx]))
      have h1 := h s (by simp)
      have := list_size s
      simp only [List.flatMap_cons, List.length_append, List.length_cons] at *
      omega
  cases ns with
  | nil => simp [joinT]
  | cons s ns =>
    have := key ns (fun x hx => h x (by simp [hx]))
    have h1 := h s (by simp)
    have := list_size s
    simp only [List.length_cons] at hn
    simp only [joinT, List.length_append]
    omega
theorem word_len (k n : Int) (s : ByteArray) (h : s.size ≤ 600) : (wordT k n s).length ≤ 2500 := by
  have h1 := digs_length n
  have h2 := quoted_length s.data.toList
  have h3 := list_size s
  unfold wordT
  split
  · simp
  split
  · simp
  split
  · split <;> simp
  split
  · omega
  split <;> omega
theorem signT_len (o : Int) : (signT o).length ≤ 2 := by
  unfold signT
  split
  · simp
  · rw [List.getD_eq_getElem?_getD]
    cases h : tsgnL[o.toNat]? with
    | none => simp
    | some x =>
      have hx := List.mem_of_getElem? h
      have : ∀ y ∈ tsgnL, y.length ≤ 2 := by decide
      simpa using this x hx
theorem builtT_len (o : Int) : (builtT o).1.length ≤ 100 := by
  unfold builtT
  split
  · simp
  · rw [List.getD_eq_getElem?_getD]
    cases h : builtL[o.toNat]? with
    | none => simp
    | some x =>
      have hx := List.mem_of_getElem? h
      have : ∀ y ∈ builtL, y.1.length ≤ 100 := by decide
      simpa using this x hx

set_option maxHeartbeats 6400000 in
theorem expr_len (k o n : Int) (s : ByteArray) (ns : List ByteArray) (l : List Tx) (hs : s.size ≤ 600) (h : ∀ x ∈ ns, x.size ≤ 100) (hn : ns.length ≤ 60) : (exprT k o n s ns l).length ≤ sum4 l + 9000 := by
  have a := at_len l
  have t := tail_len l
  have ob := obj_len ns l h hn
  have jo := join_len ns h hn
  have bl := block_len l
  have ag := args_len l
  have ag2 := args_len l.tail
  have wd := word_len k n s hs
  have sg := signT_len o
  have bt := builtT_len o
  have sz := list_size s
  have t7 := tight_len (at0 l) 7
  have t8 := tight_len (at0 l) 8
  have e1 := mx_e (at1 l)
  unfold exprT
  split
  · omega
  split
  · simp only [List.length_append, List.length_cons, List.length_nil]; omega
  split
  · simp only [List.length_cons]; omega
  split
  · have := tight_len (at0 l) (rankT 10 o)
    have := tight_len (at1 l) (rankT 10 o + 1)
    simp only [betweenT, List.length_append, List.length_cons]; omega
  split
  · have := tight_len (at0 l) 2
    have := tight_len (at1 l) (2 + 1)
    simp only [betweenT, List.length_append, List.length_cons, List.length_nil]; omega
  split
  · have := tight_len (at0 l) 1
    have := tight_len (at1 l) (1 + 1)
    simp only [betweenT, List.length_append, List.length_cons, List.length_nil]; omega
  split
  · simp only [getT, List.length_append, List.length_cons]; omega
  split
  · simp only [indexT, List.length_append, List.length_cons, List.length_nil]; omega
  split
  · have := tight_len (at0 l) (if (at0 l).kind = 13 then 9 else 8)
    simp only [List.length_append]; omega
  split
  · simp only [getT, List.length_append, List.length_cons]; omega
  split
  · simp only [List.length_append]; omega
  · omega
set_option maxHeartbeats 6400000 in
theorem stmt_len (k : Int) (s : ByteArray) (l : List Tx) (hs : s.size ≤ 600) : (stmtT k s l).length ≤ sum4 l + 9000 := by
  have a := at_len l
  have sz := list_size s
  have t8 := tight_len (at0 l) 8
  have e0 := mx_e (at0 l)
  have e1 := mx_e (at1 l)
  have e2 := mx_e (at2 l)
  have b1 := mx_b (at1 l)
  have b2 := mx_b (at2 l)
  have sh : (shortT k s l).length ≤ sum4 l + 8000 := by
    unfold shortT
    split
    · simp only [becomesT, List.length_append, List.length_cons, List.length_nil]; omega
    split
    · simp only [becomesT, List.length_append, List.length_cons]; omega
    split
    · simp only [getT, becomesT, List.length_append, List.length_cons]; omega
    split
    · simp only [indexT, becomesT, List.length_append, List.length_cons, List.length_nil]; omega
    split
    · simp only [getT, List.length_append, List.length_cons, List.length_nil]; omega
    split
    · simp only [indexT, List.length_append, List.length_cons, List.length_nil]; omega
    split
    · simp only [List.length_append, List.length_cons, List.length_nil]; omega
    split
    · simp only [List.length_append, List.length_cons, List.length_nil]; omega
    split
    · omega
    · simp
  unfold stmtT
  split
  · split <;> simp only [branchT, List.length_append, List.length_cons, List.length_nil] <;> omega
  split
  · simp only [branchT, List.length_append, List.length_cons, List.length_nil]; omega
  · simp only [List.length_append, List.length_cons, List.length_nil]; omega

theorem text_len (x : Nd) : smallN x = true → mx (textN x) + 4 ≤ 10010 * countN x := by
  refine Nd.ind (P := fun x => smallN x = true → mx (textN x) + 4 ≤ 10010 * countN x) ?_ x
  intro k o n s ns ks p ih hs
  obtain ⟨h600, h60, h100, hsk⟩ := small_mk hs
  have key : sum4 (ks.map textN) ≤ 10010 * countL ks := by
    clear hs
    induction ks with
    | nil => simp [sum4]
    | cons y r ih2 =>
      have h1 := ih y (by simp) (hsk y (by simp))
      have h2 := ih2 (fun z hz => ih z (by simp [hz])) (fun z hz => hsk z (by simp [hz]))
      rw [List.map_cons, sum4_cons, countL]
      omega
  have he := expr_len k o n s ns (ks.map textN) h600 h100 h60
  have hst := stmt_len k s (ks.map textN) h600
  have hb := block_len (ks.map textN)
  rw [textN_mk, countN]
  unfold mx
  simp only
  omega

theorem print_len (x : Nd) (hs : smallN x = true) (hc : countN x ≤ 1000) : (printT x).length ≤ 100000000 := by
  obtain ⟨k, o, n, s, ns, ks, p⟩ := x
  obtain ⟨_, _, _, hsk⟩ := small_mk hs
  have key : sum4 (ks.map textN) ≤ 10010 * countL ks := by
    clear hs hc
    induction ks with
    | nil => simp [sum4]
    | cons y r ih2 =>
      have h1 := text_len y (hsk y (by simp))
      have h2 := ih2 (fun z hz => hsk z (by simp [hz]))
      rw [List.map_cons, sum4_cons, countL]
      omega
  have := program_len (ks.map textN)
  simp only [countN] at hc
  unfold printT
  simp only [Nd.kids]
  omega

end Go.Proofs.YtlnllpehifkjhaaDoor
