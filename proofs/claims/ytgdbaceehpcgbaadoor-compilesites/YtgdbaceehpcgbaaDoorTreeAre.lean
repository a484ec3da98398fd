/- Signs, built-in calls, and whether all of some nodes or names are right. -/
import Derived.Test.YtgdbaceehpcgbaaDoorTreeAll
import Derived.Test.YtgdbaceehpcgbaaDoorJoint4
import Derived.Test.YtgdbaceehpcgbaaDoorJoint20
import Derived.Test.YtgdbaceehpcgbaaDoorJoint2
namespace Go.Proofs.YtgdbaceehpcgbaaDoor
open Go.RowKit

theorem isname2_calls (s : ByteArray) (w : World) :
    Calls Tryd.prog 99 #[.string s] w fun e w' => e = .returned (.bool (properB s)) ∧ w = w' := by
  have H := hid (show properB s = (nameB s.data.toList && !keyB s.data.toList) from rfl)
  go_enter Tryd.func99, Tryd.ntmps99
  go_wp2_with fail
  refine (isname_calls s _).mono ?_
  rintro e w1 ⟨rfl, rfl⟩
  generalize nameB s.data.toList = nb at *
  cases nb
  · go_wp2_with fail
    go_ret
    exact ⟨by rw [H.out]; rfl, rfl⟩
  · go_wp2_with fail
    refine (iskey_calls s _).mono ?_
    rintro e w1 ⟨rfl, rfl⟩
    go_wp2_with fail
    go_ret
    exact ⟨by rw [H.out]; rfl, rfl⟩

theorem strcl_prop (s : ByteArray) (g : Nat) (w : World) (hg : w.cell? ⟨g, 0, none⟩ = some (.func (.func 101) #[] #[])) :
    Calls Tryd.prog 110 #[.string s, .pointer (some ⟨g, 0, none⟩)] w fun e w' => e = .returned (.bool (!propB s)) ∧ w = w' := by
  have H := hid (show propB s = nameB s.data.toList from rfl)
  go_enter Tryd.func110, Tryd.ntmps110
  go_wp2_with fail
  refine (isname_calls s _).mono ?_
  rintro e w1 ⟨rfl, rfl⟩
  go_wp2_with fail
  go_ret
  exact ⟨by rw [H.out]; rfl, rfl⟩
theorem strcl_proper (s : ByteArray) (g : Nat) (w : World) (hg : w.cell? ⟨g, 0, none⟩ = some (.func (.func 99) #[] #[])) :
    Calls Tryd.prog 110 #[.string s, .pointer (some ⟨g, 0, none⟩)] w fun e w' => e = .returned (.bool (!properB s)) ∧ w = w' := by
  go_enter Tryd.func110, Tryd.ntmps110
  go_wp2_with fail
  refine (isname2_calls s _).mono ?_
  rintro e w1 ⟨rfl, rfl⟩
  go_wp2_with fail
  go_ret
  exact ⟨rfl, rfl⟩

theorem all_not {α : Type} (P : α → Bool) (l : List α) : l.all P = !l.any fun x => !P x := by
  induction l with
  | nil => rfl
  | cons x r ih => rw [List.all_cons, List.any_cons, ih]; cases P x <;> simp


theorem allstr_prop (B : Nat) (w : World) (v : Value) (l : List ByteArray) (m : Nat) (hB : B ≤ w.heap.size) (h1 : Hid (StrsIn B v l w)) (hc : l.length ≤ 1000000) :
    Calls Tryd.prog 106 #[v, .int .i64 m, .func (.func 101) #[] #[]] w fun e w' => e = .returned (.bool (decide (l.length ≤ m) && l.all propB)) ∧ Below w.heap.size w w' := by
  obtain ⟨ao, cap, rfl, _⟩ := strsIn_cases h1.out
  have hal := (Below.refl w.heap.size w).alloc (Nat.le_refl _) (.cells #[.func (.func 101) #[] #[]] 112)
  have AL := hid hal
  have S1 := hid (strsIn_on h1.out (hal.mono hB))
  have hmf : ∀ (fn : Fn) (first cap : Array Value) (w : World), (Instr.makeFunc fn first cap).run Tryd.prog w = .ok (.func fn first cap) w := fun _ _ _ _ => rfl
  by_cases hl : l.length ≤ m
  · have d : decide ((l.length : Int) ≤ (m : Int)) = true := decide_eq_true (by omega)
    have H := hid (show (decide (l.length ≤ m) && l.all propB) = !l.any fun x => !propB x by rw [decide_eq_true hl, Bool.true_and, all_not])
    have CL : Hid (StrCl (fun x => !propB x) (.pointer (some ⟨w.heap.size, 0, none⟩)) l (w.alloc (.cells #[.func (.func 101) #[] #[]] 112))) := by
      intro x hx w' hb
      exact (strcl_prop x w.heap.size w' (cell_keep hb (by simp) (by simp))).mono fun e w2 ⟨h1, h2⟩ => ⟨h1, h2 ▸ Below.refl _ _⟩
    clear hal h1 d
    go_enter Tryd.func106, Tryd.ntmps106
    go_wp2_with fail
    refine (Str_contains (fun x => !propB x) B _ _ _ l (by simp; omega) S1 hc CL).mono ?_
    rintro e w1 ⟨rfl, b1⟩
    have B1 := hid (below_in AL.out (by simp) b1)
    clear b1 AL S1 CL
    go_wp2_with fail
    go_ret
    exact ⟨by rw [H.out]; rfl, B1.out⟩
  · have d : decide ((l.length : Int) ≤ (m : Int)) = false := decide_eq_false (by omega)
    have H := hid (show (decide (l.length ≤ m) && l.all propB) = false by rw [decide_eq_false hl, Bool.false_and])
    clear hal h1 d
    go_enter Tryd.func106, Tryd.ntmps106
    go_wp2_with fail
    go_ret
    exact ⟨by rw [H.out]; rfl, AL.out⟩

theorem allstr_proper (B : Nat) (w : World) (v : Value) (l : List ByteArray) (m : Nat) (hB : B ≤ w.heap.size) (h1 : Hid (StrsIn B v l w)) (hc : l.length ≤ 1000000) :
    Calls Tryd.prog 106 #[v, .int .i64 m, .func (.func 99) #[] #[]] w fun e w' => e = .returned (.bool (decide (l.length ≤ m) && l.all properB)) ∧ Below w.heap.size w w' := by
  obtain ⟨ao, cap, rfl, _⟩ := strsIn_cases h1.out
  have hal := (Below.refl w.heap.size w).alloc (Nat.le_refl _) (.cells #[.func (.func 99) #[] #[]] 112)
  have AL := hid hal
  have S1 := hid (strsIn_on h1.out (hal.mono hB))
  have hmf : ∀ (fn : Fn) (first cap : Array Value) (w : World), (Instr.makeFunc fn first cap).run Tryd.prog w = .ok (.func fn first cap) w := fun _ _ _ _ => rfl
  by_cases hl : l.length ≤ m
  · have d : decide ((l.length : Int) ≤ (m : Int)) = true := decide_eq_true (by omega)
    have H := hid (show (decide (l.length ≤ m) && l.all properB) = !l.any fun x => !properB x by rw [decide_eq_true hl, Bool.true_and, all_not])
    have CL : Hid (StrCl (fun x => !properB x) (.pointer (some ⟨w.heap.size, 0, none⟩)) l (w.alloc (.cells #[.func (.func 99) #[] #[]] 112))) := by
      intro x hx w' hb
      exact (strcl_proper x w.heap.size w' (cell_keep hb (by simp) (by simp))).mono fun e w2 ⟨h1, h2⟩ => ⟨h1, h2 ▸ Below.refl _ _⟩
    clear hal h1 d
    go_enter Tryd.func106, Tryd.ntmps106
    go_wp2_with fail
    refine (Str_contains (fun x => !properB x) B _ _ _ l (by simp; omega) S1 hc CL).mono ?_
    rintro e w1 ⟨rfl, b1⟩
    have B1 := hid (below_in AL.out (by simp) b1)
    clear b1 AL S1 CL
    go_wp2_with fail
    go_ret
    exact ⟨by rw [H.out]; rfl, B1.out⟩
  · have d : decide ((l.length : Int) ≤ (m : Int)) = false := decide_eq_false (by omega)
    have H := hid (show (decide (l.length ≤ m) && l.all properB) = false by rw [decide_eq_false hl, Bool.false_and])
    clear hal h1 d
    go_enter Tryd.func106, Tryd.ntmps106
    go_wp2_with fail
    go_ret
    exact ⟨by rw [H.out]; rfl, AL.out⟩

/-- what is known of isExpr at a node -/
def ExprAt (x : Nd) : Prop := ∀ (B : Nat) (w : World) (nv kv : Value), Hid (Ok B w) → Hid (NdIn B w x nv kv) → smallN x = true → countN x ≤ 1000000 →
    Calls Tryd.prog 102 #[.agg #[.int .i64 x.kind, .int .i64 x.op, .int .i64 x.num, .string x.str, nv, kv, .int .i64 x.pl]] w fun e w' =>
      e = .returned (.bool (rightN x 1)) ∧ Below w.heap.size w w'

theorem Expr_one (x : Nd) (hx : ExprAt x) (B : Nat) (w : World) (nv kv : Value) (g : Nat) (hO : Hid (Ok B w)) (hN : Hid (NdIn B w x nv kv)) (hs : smallN x = true) (hc : countN x ≤ 1000000) (hg : w.cell? ⟨g, 0, none⟩ = some (.func (.func 102) #[] #[])) (hgw : g < w.heap.size) :
    Calls Tryd.prog 98 #[.agg #[.int .i64 x.kind, .int .i64 x.op, .int .i64 x.num, .string x.str, nv, kv, .int .i64 x.pl], .pointer (some ⟨g, 0, none⟩)] w fun e w' =>
      e = .returned (.bool (!rightN x 1)) ∧ Below w.heap.size w w' := by
  obtain ⟨a1, q1, a2, q2, rfl, rfl⟩ := ndIn_shape hN.out
  have hal := (Below.refl w.heap.size w).alloc (Nat.le_refl _) (.cells #[.int .i64 x.kind, .int .i64 x.op, .int .i64 x.num, .string x.str, .slice a1 x.names.length q1, .slice a2 x.kids.length q2, .int .i64 x.pl] 47)
  have AL := hid hal
  have N := hid (ndIn_on (hal.mono hO.out.1) _ _ _ hN.out)
  have O := hid (ok_on hO.out (hal.mono hO.out.1))
  have HX := hid hx
  have HS := hid hs
  clear hal hN hx hO hs
  go_enter Tryd.func98, Tryd.ntmps98
  go_wp2_with fail
  refine (HX.out B _ _ _ O N HS.out hc).mono ?_
  rintro e w1 ⟨rfl, b1⟩
  have B1 := hid (below_in AL.out (by simp) b1)
  clear b1 AL N O
  go_wp2_with fail
  go_ret
  exact ⟨rfl, B1.out⟩

theorem Expr_all (B : Nat) (w : World) (v : Value) (l : List Nd) (m : Nat) (hO : Hid (Ok B w)) (h1 : Hid (KidsIn B w v l)) (hs : ∀ x ∈ l, smallN x = true) (hc : countL l ≤ 1000000) (hx : ∀ x ∈ l, ExprAt x) :
    Calls Tryd.prog 91 #[v, .int .i64 m, .func (.func 102) #[] #[]] w fun e w' => e = .returned (.bool (decide (l.length ≤ m) && !l.any fun x => !rightN x 1)) ∧ Below w.heap.size w w' := by
  obtain ⟨ao, cap, rfl, _⟩ := kidsIn_cases h1.out
  have hal := (Below.refl w.heap.size w).alloc (Nat.le_refl _) (.cells #[.func (.func 102) #[] #[]] 95)
  have AL := hid hal
  have hB := hO.out.1
  have S1 := hid (kidsIn_on (hal.mono hB) h1.out)
  have hlen := length_count l
  have hmf : ∀ (fn : Fn) (first cap : Array Value) (w : World), (Instr.makeFunc fn first cap).run Tryd.prog w = .ok (.func fn first cap) w := fun _ _ _ _ => rfl
  by_cases hl : l.length ≤ m
  · have d : decide ((l.length : Int) ≤ (m : Int)) = true := decide_eq_true (by omega)
    have H := hid (show (decide (l.length ≤ m) && !l.any fun x => !rightN x 1) = !l.any fun x => !rightN x 1 by rw [decide_eq_true hl, Bool.true_and])
    have CL : Hid (AllCl (fun x => !rightN x 1) B (.pointer (some ⟨w.heap.size, 0, none⟩)) l (w.alloc (.cells #[.func (.func 102) #[] #[]] 95))) := by
      intro x hxl w' nv kv hb hin
      have hcm := count_mem hxl
      have hz := hb.size
      simp only [World.size_alloc] at hz
      exact Expr_one x (hx x hxl) B w' nv kv w.heap.size (hid (ok_on hO.out ((hal.mono hB).trans (hb.mono (by simp; omega))))) hin (hs x hxl) (by omega) (cell_keep hb (by simp) (by simp)) (by omega)
    clear hal h1 hO hx hs d
    go_enter Tryd.func91, Tryd.ntmps91
    go_wp2_with fail
    refine (All_contains (fun x => !rightN x 1) B _ _ _ l (by simp; omega) S1 (by omega) CL).mono ?_
    rintro e w1 ⟨rfl, b1⟩
    have B1 := hid (below_in AL.out (by simp) b1)
    clear b1 AL S1 CL
    go_wp2_with fail
    go_ret
    exact ⟨by rw [H.out]; rfl, B1.out⟩
  · have d : decide ((l.length : Int) ≤ (m : Int)) = false := decide_eq_false (by omega)
    have H := hid (show (decide (l.length ≤ m) && !l.any fun x => !rightN x 1) = false by rw [decide_eq_false hl, Bool.false_and])
    clear hal h1 hO hx hs d
    go_enter Tryd.func91, Tryd.ntmps91
    go_wp2_with fail
    go_ret
    exact ⟨by rw [H.out]; rfl, AL.out⟩

/-- what is known of isStmt at a node -/
def StmtAt (x : Nd) : Prop := ∀ (B : Nat) (w : World) (nv kv : Value), Hid (Ok B w) → Hid (NdIn B w x nv kv) → smallN x = true → countN x ≤ 1000000 →
    Calls Tryd.prog 92 #[.agg #[.int .i64 x.kind, .int .i64 x.op, .int .i64 x.num, .string x.str, nv, kv, .int .i64 x.pl]] w fun e w' =>
      e = .returned (.bool (rightN x 2)) ∧ Below w.heap.size w w'

theorem Stmt_one (x : Nd) (hx : StmtAt x) (B : Nat) (w : World) (nv kv : Value) (g : Nat) (hO : Hid (Ok B w)) (hN : Hid (NdIn B w x nv kv)) (hs : smallN x = true) (hc : countN x ≤ 1000000) (hg : w.cell? ⟨g, 0, none⟩ = some (.func (.func 92) #[] #[])) (hgw : g < w.heap.size) :
    Calls Tryd.prog 98 #[.agg #[.int .i64 x.kind, .int .i64 x.op, .int .i64 x.num, .string x.str, nv, kv, .int .i64 x.pl], .pointer (some ⟨g, 0, none⟩)] w fun e w' =>
      e = .returned (.bool (!rightN x 2)) ∧ Below w.heap.size w w' := by
  obtain ⟨a1, q1, a2, q2, rfl, rfl⟩ := ndIn_shape hN.out
  have hal := (Below.refl w.heap.size w).alloc (Nat.le_refl _) (.cells #[.int .i64 x.kind, .int .i64 x.op, .int .i64 x.num, .string x.str, .slice a1 x.names.length q1, .slice a2 x.kids.length q2, .int .i64 x.pl] 47)
  have AL := hid hal
  have N := hid (ndIn_on (hal.mono hO.out.1) _ _ _ hN.out)
  have O := hid (ok_on hO.out (hal.mono hO.out.1))
  have HX := hid hx
  have HS := hid hs
  clear hal hN hx hO hs
  go_enter Tryd.func98, Tryd.ntmps98
  go_wp2_with fail
  refine (HX.out B _ _ _ O N HS.out hc).mono ?_
  rintro e w1 ⟨rfl, b1⟩
  have B1 := hid (below_in AL.out (by simp) b1)
  clear b1 AL N O
  go_wp2_with fail
  go_ret
  exact ⟨rfl, B1.out⟩

theorem Stmt_all (B : Nat) (w : World) (v : Value) (l : List Nd) (m : Nat) (hO : Hid (Ok B w)) (h1 : Hid (KidsIn B w v l)) (hs : ∀ x ∈ l, smallN x = true) (hc : countL l ≤ 1000000) (hx : ∀ x ∈ l, StmtAt x) :
    Calls Tryd.prog 91 #[v, .int .i64 m, .func (.func 92) #[] #[]] w fun e w' => e = .returned (.bool (decide (l.length ≤ m) && !l.any fun x => !rightN x 2)) ∧ Below w.heap.size w w' := by
  obtain ⟨ao, cap, rfl, _⟩ := kidsIn_cases h1.out
  have hal := (Below.refl w.heap.size w).alloc (Nat.le_refl _) (.cells #[.func (.func 92) #[] #[]] 95)
  have AL := hid hal
  have hB := hO.out.1
  have S1 := hid (kidsIn_on (hal.mono hB) h1.out)
  have hlen := length_count l
  have hmf : ∀ (fn : Fn) (first cap : Array Value) (w : World), (Instr.makeFunc fn first cap).run Tryd.prog w = .ok (.func fn first cap) w := fun _ _ _ _ => rfl
  by_cases hl : l.length ≤ m
  · have d : decide ((l.length : Int) ≤ (m : Int)) = true := decide_eq_true (by omega)
    have H := hid (show (decide (l.length ≤ m) && !l.any fun x => !rightN x 2) = !l.any fun x => !rightN x 2 by rw [decide_eq_true hl, Bool.true_and])
    have CL : Hid (AllCl (fun x => !rightN x 2) B (.pointer (some ⟨w.heap.size, 0, none⟩)) l (w.alloc (.cells #[.func (.func 92) #[] #[]] 95))) := by
      intro x hxl w' nv kv hb hin
      have hcm := count_mem hxl
      have hz := hb.size
      simp only [World.size_alloc] at hz
      exact Stmt_one x (hx x hxl) B w' nv kv w.heap.size (hid (ok_on hO.out ((hal.mono hB).trans (hb.mono (by simp; omega))))) hin (hs x hxl) (by omega) (cell_keep hb (by simp) (by simp)) (by omega)
    clear hal h1 hO hx hs d
    go_enter Tryd.func91, Tryd.ntmps91
    go_wp2_with fail
    refine (All_contains (fun x => !rightN x 2) B _ _ _ l (by simp; omega) S1 (by omega) CL).mono ?_
    rintro e w1 ⟨rfl, b1⟩
    have B1 := hid (below_in AL.out (by simp) b1)
    clear b1 AL S1 CL
    go_wp2_with fail
    go_ret
    exact ⟨by rw [H.out]; rfl, B1.out⟩
  · have d : decide ((l.length : Int) ≤ (m : Int)) = false := decide_eq_false (by omega)
    have H := hid (show (decide (l.length ≤ m) && !l.any fun x => !rightN x 2) = false by rw [decide_eq_false hl, Bool.false_and])
    clear hal h1 hO hx hs d
    go_enter Tryd.func91, Tryd.ntmps91
    go_wp2_with fail
    go_ret
    exact ⟨by rw [H.out]; rfl, AL.out⟩

/-- what is known of isBlock at a node -/
def BlockAt (x : Nd) : Prop := ∀ (B : Nat) (w : World) (nv kv : Value), Hid (Ok B w) → Hid (NdIn B w x nv kv) → smallN x = true → countN x ≤ 1000000 →
    Calls Tryd.prog 65 #[.agg #[.int .i64 x.kind, .int .i64 x.op, .int .i64 x.num, .string x.str, nv, kv, .int .i64 x.pl]] w fun e w' =>
      e = .returned (.bool (rightN x 3)) ∧ Below w.heap.size w w'

theorem arestmts_calls (B : Nat) (w : World) (v : Value) (l : List Nd) (hO : Hid (Ok B w)) (h1 : Hid (KidsIn B w v l)) (hs : ∀ x ∈ l, smallN x = true) (hc : countL l ≤ 1000000) (hx : ∀ x ∈ l, StmtAt x) :
    Calls Tryd.prog 81 #[v] w fun e w' => e = .returned (.bool (decide (l.length ≤ 40) && !l.any fun x => !rightN x 2)) ∧ Below w.heap.size w w' := by
  have key := hid (Stmt_all B w v l 40 hO h1 hs hc hx)
  clear hO h1 hs hc hx
  go_enter Tryd.func81, Tryd.ntmps81
  go_wp2_with fail
  refine key.out.mono ?_
  rintro e w1 ⟨rfl, b1⟩
  go_wp2_with fail
  go_ret
  exact ⟨rfl, b1⟩

theorem areexprs_calls (B : Nat) (w : World) (v : Value) (l : List Nd) (m : Nat) (hO : Hid (Ok B w)) (h1 : Hid (KidsIn B w v l)) (hs : ∀ x ∈ l, smallN x = true) (hc : countL l ≤ 1000000) (hx : ∀ x ∈ l, ExprAt x) :
    Calls Tryd.prog 100 #[v, .int .i64 m] w fun e w' => e = .returned (.bool (decide (l.length = m) && !l.any fun x => !rightN x 1)) ∧ Below w.heap.size w w' := by
  have key := hid (Expr_all B w v l m hO h1 hs hc hx)
  obtain ⟨ao, cap, rfl, _⟩ := kidsIn_cases h1.out
  clear hO h1 hs hc hx
  by_cases hl : l.length = m
  · have d : ((l.length : Int) == (m : Int)) = true := beq_iff_eq.2 (by omega)
    have H := hid (show (decide (l.length = m) && !l.any fun x => !rightN x 1) = (decide (l.length ≤ m) && !l.any fun x => !rightN x 1) by rw [decide_eq_true hl, decide_eq_true (by omega)])
    clear hl
    go_enter Tryd.func100, Tryd.ntmps100
    go_wp2_with fail
    refine key.out.mono ?_
    rintro e w1 ⟨rfl, b1⟩
    rw [← H.out]
    go_wp2_with fail
    go_ret
    exact ⟨rfl, b1⟩
  · have d : ((l.length : Int) == (m : Int)) = false := beq_eq_false_iff_ne.2 (by omega)
    have H := hid (show (decide (l.length = m) && !l.any fun x => !rightN x 1) = false by rw [decide_eq_false hl, Bool.false_and])
    clear hl
    go_enter Tryd.func100, Tryd.ntmps100
    go_wp2_with fail
    go_ret
    exact ⟨by rw [H.out]; rfl, Below.refl _ _⟩

theorem iscall_calls (B : Nat) (w : World) (v : Value) (l : List Nd) (hO : Hid (Ok B w)) (h1 : Hid (KidsIn B w v l)) (hs : ∀ x ∈ l, smallN x = true) (hc : countL l ≤ 1000000) (hx : ∀ x ∈ l, ExprAt x) :
    Calls Tryd.prog 108 #[v] w fun e w' => e = .returned (.bool (decide (1 ≤ l.length ∧ l.length ≤ 7) && !l.any fun x => !rightN x 1)) ∧ Below w.heap.size w w' := by
  have key := hid (Expr_all B w v l 7 hO h1 hs hc hx)
  obtain ⟨ao, cap, rfl, _⟩ := kidsIn_cases h1.out
  clear hO h1 hs hc hx
  by_cases hl : 0 < l.length
  · have d : decide ((0 : Int) < (l.length : Int)) = true := decide_eq_true (by omega)
    have H := hid (show (decide (1 ≤ l.length ∧ l.length ≤ 7) && !l.any fun x => !rightN x 1) = (decide (l.length ≤ 7) && !l.any fun x => !rightN x 1) by
      congr 1; rw [Bool.eq_iff_iff, decide_eq_true_iff, decide_eq_true_iff]; omega)
    clear d
    go_enter Tryd.func108, Tryd.ntmps108
    go_wp2_with fail
    refine key.out.mono ?_
    rintro e w1 ⟨rfl, b1⟩
    go_wp2_with fail
    go_ret
    exact ⟨by rw [H.out]; rfl, b1⟩
  · have d : decide ((0 : Int) < (l.length : Int)) = false := decide_eq_false (by omega)
    have H := hid (show (decide (1 ≤ l.length ∧ l.length ≤ 7) && !l.any fun x => !rightN x 1) = false by rw [decide_eq_false (by omega), Bool.false_and])
    clear d
    go_enter Tryd.func108, Tryd.ntmps108
    go_wp2_with fail
    go_ret
    exact ⟨by rw [H.out]; rfl, Below.refl _ _⟩

end Go.Proofs.YtgdbaceehpcgbaaDoor
