/- What the program's Read answers. -/
import Derived.Test.YtnojlfdojmkonaaGreatDoorJoint11
import Derived.Test.YtnojlfdojmkonaaGreatDoorJoint9
namespace Go.Proofs.YtnojlfdojmkonaaGreatDoor
set_option linter.unusedSimpArgs false
set_option maxRecDepth 100000
open Go.RowKit

/-- what is left of a text -/
def readG (s : List UInt8) (P : Pg) (n : Nat) : Rr :=
  match runP (splitP 10 s).dropLast P n with
  | .bad m => .bad m
  | .got Q => if (splitP 10 s).getLastD [] ≠ [] ∨ Q.codes = [] then .bad (n + (splitP 10 s).length) else .got Q
theorem readG_zero (s : List UInt8) : readG s pg0 0 = readL s := by
  unfold readG readL
  cases runP (splitP 10 s).dropLast pg0 0 <;> simp only [Nat.zero_add]
theorem readG_end (P : Pg) (n : Nat) : readG [] P n = if P.codes = [] then .bad (n + 1) else .got P := by
  unfold readG
  show (if ([] : List UInt8) ≠ [] ∨ P.codes = [] then Rr.bad (n + 1) else .got P) = _
  simp
theorem readG_cut {s : List UInt8} (h : ∀ x ∈ s, x ≠ 10) (hs : s ≠ []) (P : Pg) (n : Nat) : readG s P n = .bad (n + 1) := by
  unfold readG
  rw [split_none h]
  show (if s ≠ [] ∨ P.codes = [] then Rr.bad (n + 1) else .got P) = _
  rw [if_pos (.inl hs)]
theorem drop_cons (a : List UInt8) (l : List (List UInt8)) (h : l ≠ []) : (a :: l).dropLast = a :: l.dropLast := by
  cases l with
  | nil => exact absurd rfl h
  | cons b t => rfl
theorem last_cons (a : List UInt8) (l : List (List UInt8)) (h : l ≠ []) : (a :: l).getLastD [] = l.getLastD [] := by
  cases l with
  | nil => exact absurd rfl h
  | cons b t => rfl
theorem readG_line {a r : List UInt8} (h : ∀ x ∈ a, x ≠ 10) (P : Pg) (n : Nat) : readG (a ++ 10 :: r) P n = match takeP P n a with | none => .bad (n + 1) | some Q => readG r Q (n + 1) := by
  unfold readG
  rw [split_app r h, drop_cons _ _ (split_ne 10 r), last_cons _ _ (split_ne 10 r), runP]
  cases takeP P n a with
  | none => rfl
  | some Q =>
    simp only [List.length_cons]
    rw [show n + ((splitP 10 r).length + 1) = n + 1 + (splitP 10 r).length by omega]
theorem results_c2 {fn : Func} {t u v : Tmp} {T : TypeId} (h : fn.results = #[.cell t T, .tmp u, .tmp v]) (tmps : Array Value) (P : Program) (w : World) {a : Addr} {x : Value} (ha : tmps.getD t undef = .pointer (some a)) (hv : (loadVar T a).run P w = .ok x w) : (results fn tmps).run P w = .ok (.tuple #[x, tmps.getD u undef, tmps.getD v undef]) w := by
  rw [Array.getD_eq_getD_getElem?] at ha
  simp [results, h, ha, asAddr, hv]
theorem load_prog {b : Nat} {g : Int} {pv cv : Value} {w : World} (h : Blk b 25 #[.int .i64 g, pv, cv] w) : (loadVar 25 ⟨b, 0, none⟩).run Tryz.prog w = .ok (.agg #[.int .i64 g, pv, cv]) w := by
  have c0 : w.cell? ⟨b, 0, none⟩ = some (.int .i64 g) := blk_cellZ h 0 rfl
  have c1 : w.cell? ⟨b, 1, none⟩ = some pv := blk_cellZ h 1 rfl
  have c2 : w.cell? ⟨b, 2, none⟩ = some cv := blk_cellZ h 2 rfl
  go_simp
set_option maxHeartbeats 1600000 in
theorem reading_calls (w : World) : Calls Tryz.prog 22 #[] w fun e w' => e = .returned (.pointer (some ⟨w.heap.size, 0, none⟩)) ∧ RdB w.heap.size w.heap.size pg0 (nvF 37 w.heap.size) (.slice none 0 0) (.slice none 0 0) [] w' ∧ Below w.heap.size w w' := by
  have AL := hid (box_below w (.cells #[.int .i64 0, .slice none 0 0, .slice none 0 0, .nilFunc] 63))
  have BL := hid (blk_new w 63 #[.int .i64 0, .slice none 0 0, .slice none 0 0, .nilFunc])
  have hst : (store ⟨w.heap.size, 3, none⟩ (.func (.func 37) #[.pointer (some ⟨w.heap.size, 0, none⟩)] #[])).run Tryz.prog (w.alloc (.cells #[.int .i64 0, .slice none 0 0, .slice none 0 0, .nilFunc] 63)) = .ok () ((w.alloc (.cells #[.int .i64 0, .slice none 0 0, .slice none 0 0, .nilFunc] 63)).setCell ⟨w.heap.size, 3, none⟩ (nvF 37 w.heap.size)) := by
    rw [run_store _ _ _ _ _ rfl, blk_cellZ BL.out 3 rfl, blk_free BL.out 3]
    rfl
  go_enter Tryz.func22, Tryz.ntmps22
  go_wp2_with fail
  go_ret
  refine ⟨rfl, ⟨Nat.le_refl _, by first | exact blk_set BL.out 3 _ | exact blk_new w _ _, World.ownsRow_nil _ _ _ _, World.ownsRow_nil _ _ _ _, fun _ h => (nomatch h), rfl, fun g h => by simp [Value.ownBlock] at h, fun g h => by simp [Value.ownBlock] at h, fun _ h => (nomatch h), fun ys x e => by simp at e⟩, by first | exact AL.out.setCell (p := ⟨w.heap.size, 3, none⟩) (Nat.le_refl _) _ | exact box_below w _⟩
set_option maxHeartbeats 1600000 in
theorem mayEnd_calls {B r : Nat} {P : Pg} {nv pv cv : Value} {xs : List Cv} (w : World) (h : Hid (RdB B r P nv pv cv xs w)) : Calls Tryz.prog 24 #[.pointer (some ⟨r, 0, none⟩)] w fun e w' => (∃ b, e = .returned (.bool b) ∧ (b = true ↔ P.codes ≠ [])) ∧ w' = w := by
  obtain ⟨ca, cc, rfl⟩ := row_shape h.out.codes
  have c2 : w.cell? ⟨r, 2, none⟩ = some (.slice ca xs.length cc) := blk_cellZ h.out.blk 2 rfl
  have hl := congrArg List.length h.out.fst
  rw [List.length_map] at hl
  have HL := hid hl
  clear hl
  by_cases h0 : xs.length = 0
  · have hd : decide ((xs.length : Int) > 0) = false := decide_eq_false (by omega)
    have HC := hid (show P.codes = [] from List.length_eq_zero_iff.1 (by rw [← HL.out]; exact h0))
    have H0 := hid h0
    clear h0
    go_enter Tryz.func24, Tryz.ntmps24
    go_wp2_with fail
    go_ret
    exact ⟨⟨_, rfl, by have := H0.out; simp [HC.out] <;> first | omega | exact List.length_eq_zero_iff.1 this⟩, rfl⟩
  · have hd : decide ((xs.length : Int) > 0) = true := decide_eq_true (by omega)
    have HC := hid (show P.codes ≠ [] from fun e => h0 (by rw [HL.out, e]; rfl))
    have H0 := hid h0
    clear h0
    go_enter Tryz.func24, Tryz.ntmps24
    go_wp2_with fail
    go_ret
    exact ⟨⟨_, rfl, by have := H0.out; simp [HC.out] <;> first | omega | exact List.length_eq_zero_iff.1 this⟩, rfl⟩
def szOf : Value → Nat
  | .string s => s.size
  | _ => 0
/-- what Read tells -/
def ReadIs (s : List UInt8) (P : Pg) (at' er : Int) : Prop :=
  match readL s with
  | .bad n => P = pg0 ∧ at' = n ∧ er = 11
  | .got Q => (checkP Q ∧ P = Q ∧ at' = 0 ∧ er = 0) ∨ (¬ checkP Q ∧ P = pg0 ∧ at' = 0 ∧ er = 16)
theorem readIs_bad {s : List UInt8} {n : Nat} (h : readL s = .bad n) : ReadIs s pg0 n 11 := by unfold ReadIs; rw [h]; exact ⟨rfl, rfl, rfl⟩
theorem readIs_ok {s : List UInt8} {Q : Pg} (h : readL s = .got Q) (hc : checkP Q) : ReadIs s Q 0 0 := by unfold ReadIs; rw [h]; exact .inl ⟨hc, rfl, rfl, rfl⟩
theorem readIs_no {s : List UInt8} {Q : Pg} (h : readL s = .got Q) (hc : ¬ checkP Q) : ReadIs s pg0 0 16 := by unfold ReadIs; rw [h]; exact .inr ⟨hc, rfl, rfl, rfl⟩
def RdOut (s : List UInt8) (e : Ending) (w' : World) : Prop := ∃ P pv cv at' er, e = .returned (.tuple #[pgV P pv cv, .int .i64 at', .int .i64 er]) ∧ ReadIs s P at' er ∧ PgIn w'.heap.size w' P pv cv
theorem pgIn_zero (w : World) : PgIn w.heap.size w pg0 (.slice none 0 0) (.slice none 0 0) := ⟨.inl ⟨none, 0, rfl, rfl⟩, .inl ⟨none, 0, rfl, rfl⟩, ⟨by simp [pg0], by simp [pg0]⟩, fun _ h => (nomatch h), fun _ h => (nomatch h)⟩
/-- one of the three -/
theorem next_any {B r n : Nat} {P : Pg} {pv cv : Value} {xs : List Cv} {w : World} (hL : Hid (LibW B w)) (h : Hid (RdB B r P (nvF (NxF n P) r) pv cv xs w)) (h0 : Hid (n = 0 → P = pg0)) (hF : Hid (FewK P 1000000)) :
    ∃ f, NxF n P = f ∧ (f = 37 ∨ f = 58 ∨ f = 76) ∧ ∀ (s : ByteArray) W, Below w.heap.size w W → s.size ≤ 1000000 → Calls Tryz.prog f #[.pointer (some ⟨r, 0, none⟩), .string s] W (NxOut B r n P s.data.toList W) := by
  refine ⟨_, rfl, ?_, ?_⟩
  · unfold NxF
    split
    · exact .inl rfl
    · split
      · exact .inr (.inl rfl)
      · exact .inr (.inr rfl)
  · intro s W q hs
    have hR := h.out.on q
    have hLW := hL.out.on (q.mono hL.out.le)
    by_cases hn : n = 0
    · subst hn
      have hP := h0.out rfl
      subst hP
      exact next_globals s W (hid hLW) (hid hR) hs
    · by_cases hc : P.codes = []
      · have e : NxF n P = 58 := by unfold NxF; rw [if_neg hn, if_pos hc]
        rw [e] at hR ⊢
        exact next_pool s W (hid hLW) (hid hR) hs (hid hn) (hid hc) hF
      · have e : NxF n P = 76 := by unfold NxF; rw [if_neg hn, if_neg hc]
        rw [e] at hR ⊢
        exact next_code s W (hid hLW) (hid hR) hs (hid hn) (hid hc) hF
set_option maxHeartbeats 6400000 in
theorem aread_calls (s : ByteArray) (w : World) (hL : Hid (LibW w.heap.size w)) (hs : s.size ≤ 1000000) :
    Calls Tryz.prog 13 #[.string s] w fun e w' => RdOut s.data.toList e w' ∧ Below w.heap.size w w' := by
  have HS := hid hs
  have AL := hid (box_below w (.cells #[.int .i64 0, .slice none 0 0, .slice none 0 0] 25))
  have BL := hid (blk_new w 25 #[.int .i64 0, .slice none 0 0, .slice none 0 0])
  go_enter Tryz.func13, Tryz.ntmps13
  go_wp2_with fail
  have hsz1 : (w.alloc (.cells #[.int .i64 0, .slice none 0 0, .slice none 0 0] 25)).heap.size = w.heap.size + 1 := by simp
  generalize hW1 : w.alloc (.cells #[.int .i64 0, .slice none 0 0, .slice none 0 0] 25) = w1 at *
  clear hW1
  refine (reading_calls w1).mono ?_
  rintro e w2 ⟨rfl, hR2, b2⟩
  have R2 := hid hR2
  have B2 := hid b2
  have HSZ := hid hsz1
  have LW1 := hid (show LibW w1.heap.size w1 from by
    have h := hL.out.on AL.out
    exact ⟨Nat.le_refl _, Nat.le_trans h.few h.le, h.mx, h.sy, h.rg⟩)
  clear hR2 b2 hs hsz1
  go_wp2_with fail
  go_loopw [7, 6] (fun rv av wr => ∃ (rest : ByteArray) (n : Nat), rv = .string rest ∧ av = .int .i64 ((n : Int) + 1) ∧ n + rest.size ≤ 1000000 ∧ Hid (∃ P pv cv xs, readG rest.data.toList P n = readL s.data.toList ∧ FewK P n ∧ (n = 0 → P = pg0) ∧ RdB w1.heap.size w1.heap.size P (nvF (NxF n P) w1.heap.size) pv cv xs wr ∧ Below w1.heap.size w1 wr)) (fun rv _ _ => szOf rv)
  case atStart => exact ⟨s, 0, rfl, rfl, by have := HS.out; omega, hid ⟨pg0, _, _, [], readG_zero _, fewK_zero, fun _ => rfl, R2.out, B2.out⟩⟩
  case round =>
    obtain ⟨rest, n, rfl, rfl, hn, hR⟩ := hrel
    rename World => wr
    obtain ⟨P, pv, cv, xs, hG, hF, h0, hRB, hBl⟩ := hR.out
    have HG := hid hG
    have HF := hid hF
    have H0 := hid h0
    have RB := hid hRB
    have BB := hid hBl
    have LW := hid (LW1.out.on hBl)
    have hz := Lib.size_eq rest
    have HZ := hid hz
    have HTL := hid (show rest.toList = rest.data.toList from Lib.toList_data rest)
    have R0 := hid (show Blk w.heap.size 25 #[.int .i64 0, .slice none 0 0, .slice none 0 0] wr from blk_on BL.out hBl)
    clear hG hF h0 hRB hBl hR R2 B2 hz
    by_cases he : rest.data.toList = []
    · have hq : (rest.toList == []) = true := by rw [HTL.out, he]; rfl
      have hG := HG.out
      rw [he, readG_end] at hG
      have HG2 := hid hG
      clear he HG hG
      go_wp2_with fail
      refine (mayEnd_calls wr RB).mono ?_
      rintro e w3 ⟨⟨b, rfl, hb⟩, rfl⟩
      have LB := hid (show Below w.heap.size w w3 from AL.out.trans (BB.out.mono AL.out.size))
      have c0 : w3.cell? ⟨w.heap.size, 0, none⟩ = some (.int .i64 0) := blk_cellZ R0.out 0 rfl
      have c1 : w3.cell? ⟨w.heap.size, 1, none⟩ = some (.slice none 0 0) := blk_cellZ R0.out 1 rfl
      have c2 : w3.cell? ⟨w.heap.size, 2, none⟩ = some (.slice none 0 0) := blk_cellZ R0.out 2 rfl
      have f0 := blk_free R0.out 0
      have f1 := blk_free R0.out 1
      have f2 := blk_free R0.out 2
      cases b with
      | false =>
        have hce : P.codes = [] := Classical.byContradiction fun h => by
          have := hb.2 h
          cases this
        have HI := hid (show ReadIs s.data.toList pg0 ((n : Int) + 1) 11 from by
          have h := HG2.out
          rw [if_pos hce] at h
          have := readIs_bad h.symm
          push_cast at this
          exact this)
        clear hb hce HG2
        go_wp2_with fail
        refine bodyPost_ret (results_c2 rfl _ _ _ rfl (load_prog (g := 0) (pv := .slice none 0 0) (cv := .slice none 0 0) (blk_set (blk_set (blk_set R0.out 0 _) 1 _) 2 _))) rfl ?_
        exact ⟨⟨pg0, _, _, _, _, rfl, HI.out, pgIn_zero _⟩, ((LB.out.setCell (p := ⟨w.heap.size, 0, none⟩) (Nat.le_refl _) _).setCell (p := ⟨w.heap.size, 1, none⟩) (Nat.le_refl _) _).setCell (p := ⟨w.heap.size, 2, none⟩) (Nat.le_refl _) _⟩
      | true =>
        have hce : P.codes ≠ [] := hb.1 rfl
        have HRL := hid (show readL s.data.toList = .got P from by
          have h := HG2.out
          rw [if_neg hce] at h
          exact h.symm)
        have hPG := RB.out.pg (Nat.le_trans HF.out.pool (by omega)) (Nat.le_trans HF.out.codes (by omega)) (fun c hc => Nat.le_trans (HF.out.ins c hc) (by omega)) (fun s hs => Nat.le_trans (HF.out.strs s hs) (by decide))
        obtain ⟨pa, pc, hpv⟩ := row_shape RB.out.pool
        obtain ⟨ca, cc, hcv⟩ := row_shape RB.out.codes
        have hxl := congrArg List.length RB.out.fst
        rw [List.length_map] at hxl
        rw [hxl] at hcv
        subst hpv hcv
        have CK := hid (ccheck_calls w3.heap.size P _ _ w3 (Nat.le_refl _) hPG)
        simp only [pgV] at CK
        have p0 : w3.cell? ⟨w1.heap.size, 0, none⟩ = some (.int .i64 P.g) := blk_cellZ RB.out.blk 0 rfl
        have p1 : w3.cell? ⟨w1.heap.size, 1, none⟩ = some (.slice pa P.pool.length pc) := blk_cellZ RB.out.blk 1 rfl
        have p2 : w3.cell? ⟨w1.heap.size, 2, none⟩ = some (.slice ca P.codes.length cc) := blk_cellZ RB.out.blk 2 rfl
        have CKD := hid (Classical.em (checkP P))
        have IOK := hid (fun hc => readIs_ok (Q := P) HRL.out hc)
        have INO := hid (fun hc => readIs_no (Q := P) HRL.out hc)
        clear hb hce HG2 hPG hxl
        go_wp2_with fail
        refine CK.out.mono ?_
        rintro e w4 ⟨⟨er, rfl, her⟩, b4⟩
        have L4 := hid (LB.out.trans (b4.mono LB.out.size))
        have R04 := hid (blk_on R0.out b4)
        have RB4 := hid (RB.out.on b4)
        have HER := hid her
        have q0 : w4.cell? ⟨w1.heap.size, 0, none⟩ = some (.int .i64 P.g) := blk_cellZ RB4.out.blk 0 rfl
        have q1 : w4.cell? ⟨w1.heap.size, 1, none⟩ = some (.slice pa P.pool.length pc) := blk_cellZ RB4.out.blk 1 rfl
        have q2 : w4.cell? ⟨w1.heap.size, 2, none⟩ = some (.slice ca P.codes.length cc) := blk_cellZ RB4.out.blk 2 rfl
        have c0' : w4.cell? ⟨w.heap.size, 0, none⟩ = some (.int .i64 0) := blk_cellZ R04.out 0 rfl
        have c1' : w4.cell? ⟨w.heap.size, 1, none⟩ = some (.slice none 0 0) := blk_cellZ R04.out 1 rfl
        have c2' : w4.cell? ⟨w.heap.size, 2, none⟩ = some (.slice none 0 0) := blk_cellZ R04.out 2 rfl
        have f0' := blk_free R04.out 0
        have f1' := blk_free R04.out 1
        have f2' := blk_free R04.out 2
        clear her b4 c0 c1 c2 f0 f1 f2 p0 p1 p2
        by_cases h0 : er = 0
        · subst h0
          have hc : checkP P := by
            rcases HER.out with ⟨_, h⟩ | ⟨h, _⟩
            · exact h
            · exact absurd h (by decide)
          have HI := hid (IOK.out hc)
          have hne : ¬ w1.heap.size = w.heap.size := by have := HSZ.out; omega
          have hne2 : ¬ w.heap.size = w1.heap.size := fun e => hne e.symm
          clear hc
          go_wp2_with fail
          have K := ((Keep.set (S := fun b => b = w.heap.size) (g := w.heap.size) rfl w4 0 (.int .i64 P.g)).trans (Keep.set (S := fun b => b = w.heap.size) (g := w.heap.size) rfl _ 1 (.slice pa P.pool.length pc)) (fun _ _ h => h)).trans (Keep.set (S := fun b => b = w.heap.size) (g := w.heap.size) rfl _ 2 (.slice ca P.codes.length cc)) (fun _ _ h => h)
          have hlow : ∀ g, w1.heap.size ≤ g → ¬ g = w.heap.size := fun g hg e => by have := HSZ.out; omega
          have RF := RB4.out.keep K hne (fun g hg => hlow g (RB4.out.plow g hg)) (fun g hg => hlow g (RB4.out.clow g hg)) (fun x hx g hg => hlow g (RB4.out.ilow x hx g hg))
          have PF := RF.pg (Nat.le_trans HF.out.pool (by omega)) (Nat.le_trans HF.out.codes (by omega)) (fun c hc => Nat.le_trans (HF.out.ins c hc) (by omega)) (fun s hs => Nat.le_trans (HF.out.strs s hs) (by decide))
          refine bodyPost_ret (results_c2 rfl _ _ _ rfl (load_prog (g := P.g) (pv := .slice pa P.pool.length pc) (cv := .slice ca P.codes.length cc) (blk_set (blk_set (blk_set R04.out 0 _) 1 _) 2 _))) rfl ?_
          exact ⟨⟨P, _, _, _, _, rfl, HI.out, PF⟩, ((L4.out.setCell (p := ⟨w.heap.size, 0, none⟩) (Nat.le_refl _) _).setCell (p := ⟨w.heap.size, 1, none⟩) (Nat.le_refl _) _).setCell (p := ⟨w.heap.size, 2, none⟩) (Nat.le_refl _) _⟩
        · have hc : ¬ checkP P ∧ er = 16 := by
            rcases HER.out with ⟨h, _⟩ | ⟨h, h2⟩
            · exact absurd h h0
            · exact ⟨h2, h⟩
          obtain ⟨hc, rfl⟩ := hc
          have HI := hid (INO.out hc)
          clear hc
          go_wp2_with fail
          refine bodyPost_ret (results_c2 rfl _ _ _ rfl (load_prog (g := 0) (pv := .slice none 0 0) (cv := .slice none 0 0) (blk_set (blk_set (blk_set R04.out 0 _) 1 _) 2 _))) rfl ?_
          exact ⟨⟨pg0, _, _, _, _, rfl, HI.out, pgIn_zero _⟩, ((L4.out.setCell (p := ⟨w.heap.size, 0, none⟩) (Nat.le_refl _) _).setCell (p := ⟨w.heap.size, 1, none⟩) (Nat.le_refl _) _).setCell (p := ⟨w.heap.size, 2, none⟩) (Nat.le_refl _) _⟩
    · have hq : (rest.toList == []) = false := by rw [HTL.out]; simpa using he
      have HE := hid he
      clear he
      have CUT := hid (cut_calls rest wr LW.out (by omega))
      rcases byte_at 10 rest.data.toList with hno | ⟨a, r, har, ha⟩
      · rw [cut_none hno] at CUT
        have HI := hid (show ReadIs s.data.toList pg0 ((n : Int) + 1) 11 from by
          have h := HG.out
          rw [readG_cut hno HE.out] at h
          have := readIs_bad h.symm
          push_cast at this
          exact this)
        clear hno HG HE
        go_wp2_with fail
        refine CUT.out.mono ?_
        rintro e w3 ⟨rfl, b3⟩
        have LB := hid (show Below w.heap.size w w3 from (AL.out.trans (BB.out.mono AL.out.size)).trans (b3.mono (Nat.le_trans AL.out.size BB.out.size)))
        have R03 := hid (blk_on R0.out b3)
        have c0 : w3.cell? ⟨w.heap.size, 0, none⟩ = some (.int .i64 0) := blk_cellZ R03.out 0 rfl
        have c1 : w3.cell? ⟨w.heap.size, 1, none⟩ = some (.slice none 0 0) := blk_cellZ R03.out 1 rfl
        have c2 : w3.cell? ⟨w.heap.size, 2, none⟩ = some (.slice none 0 0) := blk_cellZ R03.out 2 rfl
        have f0 := blk_free R03.out 0
        have f1 := blk_free R03.out 1
        have f2 := blk_free R03.out 2
        clear b3
        go_wp2_with fail
        refine bodyPost_ret (results_c2 rfl _ _ _ rfl (load_prog (g := 0) (pv := .slice none 0 0) (cv := .slice none 0 0) (blk_set (blk_set (blk_set R03.out 0 _) 1 _) 2 _))) rfl ?_
        exact ⟨⟨pg0, _, _, _, _, rfl, HI.out, pgIn_zero _⟩, ((LB.out.setCell (p := ⟨w.heap.size, 0, none⟩) (Nat.le_refl _) _).setCell (p := ⟨w.heap.size, 1, none⟩) (Nat.le_refl _) _).setCell (p := ⟨w.heap.size, 2, none⟩) (Nat.le_refl _) _⟩
      · rw [har, cut_some r ha] at CUT
        have hlen := congrArg List.length har
        simp only [List.length_append, List.length_cons] at hlen
        have hz := HZ.out
        have HGL := hid (show (match takeP P n a with | none => Rr.bad (n + 1) | some Q => readG r Q (n + 1)) = readL s.data.toList from by
          have h := HG.out
          rw [har, readG_line ha] at h
          exact h)
        have hls : (⟨a.toArray⟩ : ByteArray).size ≤ 1000000 := by
          have : (⟨a.toArray⟩ : ByteArray).size = a.length := Lib.size_eq _
          omega
        have hrs : (⟨r.toArray⟩ : ByteArray).size + 1 ≤ rest.size := by
          have : (⟨r.toArray⟩ : ByteArray).size = r.length := Lib.size_eq _
          omega
        have HLS := hid hls
        have HRS := hid hrs
        clear har ha hlen hz HG HE hls hrs
        go_wp2_with fail
        refine CUT.out.mono ?_
        rintro e w3 ⟨rfl, b3⟩
        have L3 := hid (BB.out.trans (b3.mono BB.out.size))
        have LW3 := hid (LW1.out.on L3.out)
        have RB3 := hid (RB.out.on b3)
        obtain ⟨f, hf, hcase, NX⟩ := next_any LW3 RB3 H0 (hid ⟨Nat.le_trans HF.out.pool (by omega), Nat.le_trans HF.out.codes (by omega), fun c hc => Nat.le_trans (HF.out.ins c hc) (by omega), HF.out.strs⟩)
        have CALL := hid (NX ⟨a.toArray⟩ w3 (Below.refl _ _) HLS.out)
        rw [hf] at RB3
        clear b3 hf NX
        simp only [List.toList_toArray] at CALL
        rcases hcase with rfl | rfl | rfl
        all_goals
          have c3 := show w3.cell? ⟨w1.heap.size, 3, none⟩ = some (nvF _ _) from blk_cellZ RB3.out.blk 3 rfl
          unfold nvF at c3
          go_wp2_with fail
          refine CALL.out.mono ?_
          rintro e w4 ⟨b, rfl, b4, hb⟩
          have L4 := hid (L3.out.trans b4)
          have HB := hid hb
          clear b4 hb c3
          cases b with
          | false =>
            have HI := hid (show ReadIs s.data.toList pg0 ((n : Int) + 1) 11 from by
              rcases HB.out with ⟨h, _⟩ | ⟨_, h⟩
              · cases h
              · have h2 := HGL.out
                rw [h] at h2
                have := readIs_bad h2.symm
                push_cast at this
                exact this)
            have R04 := hid (blk_on BL.out L4.out)
            have LB := hid (show Below w.heap.size w w4 from AL.out.trans (L4.out.mono AL.out.size))
            have c0 : w4.cell? ⟨w.heap.size, 0, none⟩ = some (.int .i64 0) := blk_cellZ R04.out 0 rfl
            have c1 : w4.cell? ⟨w.heap.size, 1, none⟩ = some (.slice none 0 0) := blk_cellZ R04.out 1 rfl
            have c2 : w4.cell? ⟨w.heap.size, 2, none⟩ = some (.slice none 0 0) := blk_cellZ R04.out 2 rfl
            have f0 := blk_free R04.out 0
            have f1 := blk_free R04.out 1
            have f2 := blk_free R04.out 2
            go_wp2_with fail
            refine bodyPost_ret (results_c2 rfl _ _ _ rfl (load_prog (g := 0) (pv := .slice none 0 0) (cv := .slice none 0 0) (blk_set (blk_set (blk_set R04.out 0 _) 1 _) 2 _))) rfl ?_
            exact ⟨⟨pg0, _, _, _, _, rfl, HI.out, pgIn_zero _⟩, ((LB.out.setCell (p := ⟨w.heap.size, 0, none⟩) (Nat.le_refl _) _).setCell (p := ⟨w.heap.size, 1, none⟩) (Nat.le_refl _) _).setCell (p := ⟨w.heap.size, 2, none⟩) (Nat.le_refl _) _⟩
          | true =>
            have hQ : ∃ Q pv cv xs, takeP P n a = some Q ∧ RdB w1.heap.size w1.heap.size Q (nvF (NxF (n + 1) Q) w1.heap.size) pv cv xs w4 := by
              rcases HB.out with ⟨_, h⟩ | ⟨h, _⟩
              · exact h
              · cases h
            obtain ⟨Q, pv', cv', xs', hT, hRQ⟩ := hQ
            have HT := hid hT
            have HRQ := hid hRQ
            have HG' := hid (show readG (⟨r.toArray⟩ : ByteArray).data.toList Q (n + 1) = readL s.data.toList from by
              have h2 := HGL.out
              rw [hT] at h2
              simpa using h2)
            have HFQ := hid (fewK_take HF.out (by have := HLS.out; have : (⟨a.toArray⟩ : ByteArray).size = a.length := Lib.size_eq _; omega) hT)
            clear hT hRQ HB
            go_wp2_with fail
            go_roundw
            case rel => exact ⟨_, n + 1, rfl, by go_num, by have := HRS.out; omega, hid ⟨Q, pv', cv', xs', HG'.out, HFQ.out, fun h => by omega, HRQ.out, L4.out⟩⟩
            case measure => have := HRS.out; simp only [szOf]; omega
end Go.Proofs.YtnojlfdojmkonaaGreatDoor
