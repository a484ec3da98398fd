/- A name's number; names that are cloned. -/
import Derived.Test.YtmihckhflbepjaaDoorTk
import Derived.Test.YtmihckhflbepjaaDoorScDecl
namespace Go.Proofs.YtmihckhflbepjaaDoor
set_option linter.unusedSimpArgs false
open Go.RowKit

/-- the locals: none at all, or a map -/
def LoAt (v : Value) (lo : List ByteArray) (w : World) : Prop := (v = .map none ∧ lo = []) ∨ ∃ b, v = .map (some b) ∧ NmAt b lo w
theorem gm_rlook {T : TypeId} (ht : Tryd.prog.underlying T = some (.map 9 3)) {m c : Nat} {f : ByteArray → Option Int} {s : ByteArray} {w : World} (hM : MapN m f c w) (hs : s.size ≤ maxLen) :
    (Instr.lookup T (.map (some m)) (.string s) true).run Tryd.prog w = .ok (.tuple #[.int .i64 ((f s).getD 0), .bool (f s).isSome]) w := by
  obtain ⟨D, ho, hc, hf⟩ := hM
  obtain ⟨h1, h2⟩ := hf s hs
  obtain ⟨v, ps, hrun, hv⟩ := ho.look_ok keyS ht (zeroIn _) (plainElem_int underIn (by decide)) (keyOf_lit hs)
  obtain ⟨c', rfl, hc', _⟩ := plainElem_int_inv underIn hv
  have hat : D.atKey (lit s) (.lit (.int .i64 0)) = .lit (.int .i64 c') := congrArg Prod.fst hc'
  have e : c' = (f s).getD 0 := by
    cases hfs : f s with
    | none =>
      rw [hfs] at h1
      rw [Maps.atKey_of_not_has h1] at hat
      have : (0 : Int) = c' := by simpa using hat
      rw [← this]; rfl
    | some i =>
      have h3 := (h2 i hfs).symm.trans hat
      have : i = c' := by simpa using h3
      rw [← this]; rfl
  rw [hrun, e, h1]
theorem lo_run {v : Value} {lo : List ByteArray} {s : ByteArray} {w : World} (h : LoAt v lo w) (hs : s.size ≤ maxLen) :
    (Instr.lookup 49 v (.string s) true).run Tryd.prog w = .ok (.tuple #[.int .i64 ((idxF lo s).getD 0), .bool (idxF lo s).isSome]) w := by
  rcases h with ⟨rfl, rfl⟩ | ⟨b, rfl, h⟩
  · have := Maps.look_nil (w := w) true keyS underNm (zeroIn w) (keyOf_lit hs)
    simpa [idxF, idxN] using this
  · exact gm_rlook underNm h hs
theorem yield_lo {o : Oper} {a : Act} {w : World} {mo x : Operand} {v : Value} {lo : List ByteArray} {s : ByteArray} (hop : o.op = Op.lookup 49 mo x true)
    (hm : a.eval mo = v) (hx : a.eval x = .string s) (h : LoAt v lo w) (hs : s.size ≤ maxLen) : (execOp a.eval o).run Tryd.prog w = .ok (.value (.tuple #[.int .i64 ((idxF lo s).getD 0), .bool (idxF lo s).isSome])) w := by
  simp [execOp, hop, hm, hx, lo_run h hs, Result.andThen]
theorem loAt_keep {v : Value} {lo : List ByteArray} {a c : World} (h : LoAt v lo a) (hk : ∀ b, v = .map (some b) → c.heap[b]? = a.heap[b]?) : LoAt v lo c := by
  rcases h with h | ⟨b, e, h⟩
  · exact .inl h
  · exact .inr ⟨b, e, nmAt_keep h (hk b e)⟩
theorem loAt_on {v : Value} {lo : List ByteArray} {a c : World} (h : LoAt v lo a) (k : Below a.heap.size a c) : LoAt v lo c := by
  rcases h with h | ⟨b, e, h⟩
  · exact .inl h
  · exact .inr ⟨b, e, nmAt_keep h (k.block b (nmAt_lt h))⟩
/-- a node without names and kids, as a value -/
def bareV (k i : Int) : Value := .agg #[.int .i64 k, .int .i64 0, .int .i64 i, .string ⟨#[]⟩, .slice none 0 0, .slice none 0 0, .int .i64 0]
theorem ret_n2 {fn : Func} {t u : Tmp} (h : fn.results = #[.cell t 25, .cell u 53]) {tmps : Array Value} {g g' : Nat} {w : World} {v0 v1 v2 v3 v4 v5 v6 x y : Value} (ht : tmps.getD t undef = .pointer (some ⟨g, 0, none⟩)) (hu : tmps.getD u undef = .pointer (some ⟨g', 0, none⟩))
    (c : w.cell? ⟨g, 0, none⟩ = some v0 ∧ w.cell? ⟨g, 1, none⟩ = some v1 ∧ w.cell? ⟨g, 2, none⟩ = some v2 ∧ w.cell? ⟨g, 3, none⟩ = some v3 ∧ w.cell? ⟨g, 4, none⟩ = some v4 ∧ w.cell? ⟨g, 5, none⟩ = some v5 ∧ w.cell? ⟨g, 6, none⟩ = some v6)
    (d : w.cell? ⟨g', 0, none⟩ = some x ∧ w.cell? ⟨g', 1, none⟩ = some y) :
    (results fn tmps).run Tryd.prog w = .ok (.tuple #[.agg #[v0, v1, v2, v3, v4, v5, v6], .agg #[x, y]]) w := by
  rw [Array.getD_eq_getD_getElem?] at ht hu
  obtain ⟨c0, c1, c2, c3, c4, c5, c6⟩ := c
  simp [results, h, ht, hu, go_sem, asAddr, c0, c1, c2, c3, c4, c5, c6, d.1, d.2]
def findV (p : Int) : Option (Int × Nat) → Value
  | some (k, i) => .tuple #[bareV k i, .agg #[.int .i64 0, .int .i64 0]]
  | none => .tuple #[bareV 0 0, .agg #[.int .i64 p, .int .i64 14]]

set_option maxHeartbeats 4000000 in
theorem find_calls {r gm : Nat} {lv fv : Value} {gl lo : List ByteArray} (w : World) (hR : Blk r 51 #[.map (some gm), lv, fv] w) (hG : NmAt gm gl w) (hL : LoAt lv lo w) (k o n : Int) (s : ByteArray) (na ka : Option Addr) (nl nc kl kc : Nat) (p : Int) (hs : s.size ≤ 1000000) :
    Calls Tryd.prog 61 #[.pointer (some ⟨r, 0, none⟩), .agg #[.int .i64 k, .int .i64 o, .int .i64 n, .string s, .slice na nl nc, .slice ka kl kc, .int .i64 p]] w fun e w' =>
      e = .returned (findV p (findP gl lo k s)) ∧ Below w.heap.size w w' := by
  have hsl : s.size ≤ maxLen := by unfold maxLen; omega
  have hr := blk_lt hR
  have r0 : w.cell? ⟨r, 0, none⟩ = some (.map (some gm)) := by rw [blk_cell hR]; rfl
  have r1 : w.cell? ⟨r, 1, none⟩ = some lv := by rw [blk_cell hR]; rfl
  have hgm := nmAt_lt hG
  have A1 := (Below.refl w.heap.size w).alloc (Nat.le_refl _) (Obj.cells #[.int .i64 k, .int .i64 o, .int .i64 n, .string s, .slice na nl nc, .slice ka kl kc, .int .i64 p] 25)
  have A2 := A1.alloc (by simp) (Obj.cells #[.int .i64 0, .int .i64 0, .int .i64 0, .string ⟨#[]⟩, .slice none 0 0, .slice none 0 0, .int .i64 0] 25)
  have A3 := A2.alloc (by simp; omega) (Obj.cells #[.int .i64 0, .int .i64 0] 53)
  have HA := hid A3
  have HL := hid (loAt_on hL A3)
  have HG := hid (nmAt_keep hG (A3.block gm hgm))
  have hlv : ∃ q, lv = .map q := by
    rcases hL with ⟨h, _⟩ | ⟨b, h, _⟩
    · exact ⟨_, h⟩
    · exact ⟨_, h⟩
  obtain ⟨lq, rfl⟩ := hlv
  clear hR hG hL A1 A2 A3
  have HF1 : ∀ i, idxN lo s = some i → idxF lo s = some (i : Int) := fun i h => by unfold idxF; rw [h]; rfl
  have HF2 : idxN lo s = none → idxF lo s = none := fun h => by unfold idxF; rw [h]; rfl
  have HF3 : ∀ i, idxN gl s = some i → idxF gl s = some (i : Int) := fun i h => by unfold idxF; rw [h]; rfl
  have HF4 : idxN gl s = none → idxF gl s = none := fun h => by unfold idxF; rw [h]; rfl
  by_cases hk5 : k = 5
  · subst hk5
    cases hi : idxN lo s with
    | some i =>
      have e1 := HF1 i hi
      have HV := hid (show findP gl lo 5 s = some (18, i) by unfold findP; rw [hi]; rfl)
      clear HF1 HF2 HF3 HF4 hi
      rw [HV.out]
      unfold findV bareV
      go_enter Tryd.func61, Tryd.ntmps61
      go_wp2_with fail
      have W2 : (((w.alloc (Obj.cells #[.int .i64 5, .int .i64 o, .int .i64 n, .string s, .slice na nl nc, .slice ka kl kc, .int .i64 p] 25)).alloc (Obj.cells #[.int .i64 0, .int .i64 0, .int .i64 0, .string ⟨#[]⟩, .slice none 0 0, .slice none 0 0, .int .i64 0] 25)).alloc (Obj.cells #[.int .i64 0, .int .i64 0] 53)).cell? ⟨w.heap.size, 3, none⟩ = some (.string s) := by go_simp
      have W6 : (((w.alloc (Obj.cells #[.int .i64 5, .int .i64 o, .int .i64 n, .string s, .slice na nl nc, .slice ka kl kc, .int .i64 p] 25)).alloc (Obj.cells #[.int .i64 0, .int .i64 0, .int .i64 0, .string ⟨#[]⟩, .slice none 0 0, .slice none 0 0, .int .i64 0] 25)).alloc (Obj.cells #[.int .i64 0, .int .i64 0] 53)).cell? ⟨w.heap.size, 6, none⟩ = some (.int .i64 p) := by go_simp
      generalize hW : ((w.alloc (Obj.cells #[.int .i64 5, .int .i64 o, .int .i64 n, .string s, .slice na nl nc, .slice ka kl kc, .int .i64 p] 25)).alloc (Obj.cells #[.int .i64 0, .int .i64 0, .int .i64 0, .string ⟨#[]⟩, .slice none 0 0, .slice none 0 0, .int .i64 0] 25)).alloc (Obj.cells #[.int .i64 0, .int .i64 0] 53) = W at *
      have W0 : W.cell? ⟨r, 0, none⟩ = some (.map (some gm)) := (HA.out.cell (p := ⟨r, 0, none⟩) hr).trans r0
      have W1 : W.cell? ⟨r, 1, none⟩ = some (.map lq) := (HA.out.cell (p := ⟨r, 1, none⟩) hr).trans r1
      refine wp_region_held_drew (S := fun a => a = W.drew) (by kernel_rfl) rfl (fun hHeld => ?_)
      refine tkk 0 ?_
      refine tkk 1 ?_
      refine tkk 2 ?_
      refine tk 3 (v := ?v4) ?y4 ?_
      case y4 => (intro a hSw; subst hSw; go_simp <;> (try with_reducible rfl))
      refine tkk 4 ?_
      refine tk 5 (v := ?v6) ?y6 ?_
      case y6 => (intro a hSw; subst hSw; go_simp <;> (try with_reducible rfl))
      refine tk 6 (v := ?v7) ?y7 ?_
      case y7 => (intro a hSw; subst hSw; refine yield_lo (mo := .tmp 19) (x := .tmp 21) ?_ ?_ ?_ (loAt_on HL.out (Below.refl _ _).drew) hsl <;> rfl)
      rw [e1]
      refine tkk 7 ?_
      refine tkk 8 ?_
      refine tkk 9 ?_
      refine tkk 10 ?_
      refine tkk 11 ?_
      refine wpAnyH_done (by kernel_rfl) ?_ _
      subst hW
      go_wp2_with fail
      exact bodyPost_ret (ret_n2 rfl rfl rfl ⟨by go_simp, by go_simp, by go_simp, by go_simp, by go_simp, by go_simp, by go_simp⟩ ⟨by go_simp, by go_simp⟩) rfl ⟨rfl, ((((Below.refl w.heap.size w).alloc (Nat.le_refl _) _).alloc (by simp) _).alloc (by simp; omega) _).drew⟩
    | none =>
      have e1 := HF2 hi
      cases hj : idxN gl s with
      | some i =>
        have e2 := HF3 i hj
        have HV := hid (show findP gl lo 5 s = some (19, i) by unfold findP; rw [hi, hj]; rfl)
        clear HF1 HF2 HF3 HF4 hi hj
        rw [HV.out]
        unfold findV bareV
        go_enter Tryd.func61, Tryd.ntmps61
        go_wp2_with fail
        have W2 : (((w.alloc (Obj.cells #[.int .i64 5, .int .i64 o, .int .i64 n, .string s, .slice na nl nc, .slice ka kl kc, .int .i64 p] 25)).alloc (Obj.cells #[.int .i64 0, .int .i64 0, .int .i64 0, .string ⟨#[]⟩, .slice none 0 0, .slice none 0 0, .int .i64 0] 25)).alloc (Obj.cells #[.int .i64 0, .int .i64 0] 53)).cell? ⟨w.heap.size, 3, none⟩ = some (.string s) := by go_simp
        have W6 : (((w.alloc (Obj.cells #[.int .i64 5, .int .i64 o, .int .i64 n, .string s, .slice na nl nc, .slice ka kl kc, .int .i64 p] 25)).alloc (Obj.cells #[.int .i64 0, .int .i64 0, .int .i64 0, .string ⟨#[]⟩, .slice none 0 0, .slice none 0 0, .int .i64 0] 25)).alloc (Obj.cells #[.int .i64 0, .int .i64 0] 53)).cell? ⟨w.heap.size, 6, none⟩ = some (.int .i64 p) := by go_simp
        generalize hW : ((w.alloc (Obj.cells #[.int .i64 5, .int .i64 o, .int .i64 n, .string s, .slice na nl nc, .slice ka kl kc, .int .i64 p] 25)).alloc (Obj.cells #[.int .i64 0, .int .i64 0, .int .i64 0, .string ⟨#[]⟩, .slice none 0 0, .slice none 0 0, .int .i64 0] 25)).alloc (Obj.cells #[.int .i64 0, .int .i64 0] 53) = W at *
        have W0 : W.cell? ⟨r, 0, none⟩ = some (.map (some gm)) := (HA.out.cell (p := ⟨r, 0, none⟩) hr).trans r0
        have W1 : W.cell? ⟨r, 1, none⟩ = some (.map lq) := (HA.out.cell (p := ⟨r, 1, none⟩) hr).trans r1
        refine wp_region_held_drew (S := fun a => a = W.drew) (by kernel_rfl) rfl (fun hHeld => ?_)
        refine tkk 0 ?_
        refine tkk 1 ?_
        refine tkk 2 ?_
        refine tk 3 (v := ?v16) ?y16 ?_
        case y16 => (intro a hSw; subst hSw; go_simp <;> (try with_reducible rfl))
        refine tkk 4 ?_
        refine tk 5 (v := ?v18) ?y18 ?_
        case y18 => (intro a hSw; subst hSw; go_simp <;> (try with_reducible rfl))
        refine tk 6 (v := ?v19) ?y19 ?_
        case y19 => (intro a hSw; subst hSw; refine yield_lo (mo := .tmp 19) (x := .tmp 21) ?_ ?_ ?_ (loAt_on HL.out (Below.refl _ _).drew) hsl <;> rfl)
        rw [e1]
        refine tkk 7 ?_
        refine tkk 8 ?_
        refine tkk 9 ?_
        refine tkk 10 ?_
        refine tkk 11 ?_
        refine wpAnyH_done (by kernel_rfl) ?_ _
        go_wp2_with fail
        refine wp_region_held_drew (S := fun a => a = W.drew.drew) (by kernel_rfl) rfl (fun hHeld => ?_)
        refine tkk 0 ?_
        refine tkk 1 ?_
        refine tkk 2 ?_
        refine tk 3 (v := ?v28) ?y28 ?_
        case y28 => (intro a hSw; subst hSw; go_simp <;> (try with_reducible rfl))
        refine tkk 4 ?_
        refine tk 5 (v := ?v30) ?y30 ?_
        case y30 => (intro a hSw; subst hSw; go_simp <;> (try with_reducible rfl))
        refine tk 6 (v := ?v31) ?y31 ?_
        case y31 => (intro a hSw; subst hSw; refine yield_lo (mo := .tmp 34) (x := .tmp 36) ?_ ?_ ?_ (loAt_on (show LoAt (.map (some gm)) gl W from .inr ⟨gm, rfl, HG.out⟩) (Below.refl _ _).drew.drew) hsl <;> rfl)
        rw [e2]
        refine tkk 7 ?_
        refine tkk 8 ?_
        refine tkk 9 ?_
        refine tkk 10 ?_
        refine tkk 11 ?_
        refine wpAnyH_done (by kernel_rfl) ?_ _
        subst hW
        go_wp2_with fail
        exact bodyPost_ret (ret_n2 rfl rfl rfl ⟨by go_simp, by go_simp, by go_simp, by go_simp, by go_simp, by go_simp, by go_simp⟩ ⟨by go_simp, by go_simp⟩) rfl ⟨rfl, ((((Below.refl w.heap.size w).alloc (Nat.le_refl _) _).alloc (by simp) _).alloc (by simp; omega) _).drew.drew⟩
      | none =>
        have e2 := HF4 hj
        have HV := hid (show findP gl lo 5 s = none by unfold findP; rw [hi, hj])
        clear HF1 HF2 HF3 HF4 hi hj
        rw [HV.out]
        unfold findV bareV
        go_enter Tryd.func61, Tryd.ntmps61
        go_wp2_with fail
        have W2 : (((w.alloc (Obj.cells #[.int .i64 5, .int .i64 o, .int .i64 n, .string s, .slice na nl nc, .slice ka kl kc, .int .i64 p] 25)).alloc (Obj.cells #[.int .i64 0, .int .i64 0, .int .i64 0, .string ⟨#[]⟩, .slice none 0 0, .slice none 0 0, .int .i64 0] 25)).alloc (Obj.cells #[.int .i64 0, .int .i64 0] 53)).cell? ⟨w.heap.size, 3, none⟩ = some (.string s) := by go_simp
        have W6 : (((w.alloc (Obj.cells #[.int .i64 5, .int .i64 o, .int .i64 n, .string s, .slice na nl nc, .slice ka kl kc, .int .i64 p] 25)).alloc (Obj.cells #[.int .i64 0, .int .i64 0, .int .i64 0, .string ⟨#[]⟩, .slice none 0 0, .slice none 0 0, .int .i64 0] 25)).alloc (Obj.cells #[.int .i64 0, .int .i64 0] 53)).cell? ⟨w.heap.size, 6, none⟩ = some (.int .i64 p) := by go_simp
        generalize hW : ((w.alloc (Obj.cells #[.int .i64 5, .int .i64 o, .int .i64 n, .string s, .slice na nl nc, .slice ka kl kc, .int .i64 p] 25)).alloc (Obj.cells #[.int .i64 0, .int .i64 0, .int .i64 0, .string ⟨#[]⟩, .slice none 0 0, .slice none 0 0, .int .i64 0] 25)).alloc (Obj.cells #[.int .i64 0, .int .i64 0] 53) = W at *
        have W0 : W.cell? ⟨r, 0, none⟩ = some (.map (some gm)) := (HA.out.cell (p := ⟨r, 0, none⟩) hr).trans r0
        have W1 : W.cell? ⟨r, 1, none⟩ = some (.map lq) := (HA.out.cell (p := ⟨r, 1, none⟩) hr).trans r1
        refine wp_region_held_drew (S := fun a => a = W.drew) (by kernel_rfl) rfl (fun hHeld => ?_)
        refine tkk 0 ?_
        refine tkk 1 ?_
        refine tkk 2 ?_
        refine tk 3 (v := ?v40) ?y40 ?_
        case y40 => (intro a hSw; subst hSw; go_simp <;> (try with_reducible rfl))
        refine tkk 4 ?_
        refine tk 5 (v := ?v42) ?y42 ?_
        case y42 => (intro a hSw; subst hSw; go_simp <;> (try with_reducible rfl))
        refine tk 6 (v := ?v43) ?y43 ?_
        case y43 => (intro a hSw; subst hSw; refine yield_lo (mo := .tmp 19) (x := .tmp 21) ?_ ?_ ?_ (loAt_on HL.out (Below.refl _ _).drew) hsl <;> rfl)
        rw [e1]
        refine tkk 7 ?_
        refine tkk 8 ?_
        refine tkk 9 ?_
        refine tkk 10 ?_
        refine tkk 11 ?_
        refine wpAnyH_done (by kernel_rfl) ?_ _
        go_wp2_with fail
        refine wp_region_held_drew (S := fun a => a = W.drew.drew) (by kernel_rfl) rfl (fun hHeld => ?_)
        refine tkk 0 ?_
        refine tkk 1 ?_
        refine tkk 2 ?_
        refine tk 3 (v := ?v52) ?y52 ?_
        case y52 => (intro a hSw; subst hSw; go_simp <;> (try with_reducible rfl))
        refine tkk 4 ?_
        refine tk 5 (v := ?v54) ?y54 ?_
        case y54 => (intro a hSw; subst hSw; go_simp <;> (try with_reducible rfl))
        refine tk 6 (v := ?v55) ?y55 ?_
        case y55 => (intro a hSw; subst hSw; refine yield_lo (mo := .tmp 34) (x := .tmp 36) ?_ ?_ ?_ (loAt_on (show LoAt (.map (some gm)) gl W from .inr ⟨gm, rfl, HG.out⟩) (Below.refl _ _).drew.drew) hsl <;> rfl)
        rw [e2]
        refine tkk 7 ?_
        refine tkk 8 ?_
        refine tkk 9 ?_
        refine tkk 10 ?_
        refine tkk 11 ?_
        refine wpAnyH_done (by kernel_rfl) ?_ _
        subst hW
        go_wp2_with fail
        go_region
        all_goals
          go_wp2_with fail
          exact bodyPost_ret (ret_n2 rfl rfl rfl ⟨by go_simp, by go_simp, by go_simp, by go_simp, by go_simp, by go_simp, by go_simp⟩ ⟨by go_simp, by go_simp⟩) rfl ⟨rfl, ((((Below.refl w.heap.size w).alloc (Nat.le_refl _) _).alloc (by simp) _).alloc (by simp; omega) _).drew.drew.drew⟩
  · have hk : decide (k = 5) = false := decide_eq_false hk5
    cases hi : idxN lo s with
    | some i =>
      have e1 := HF1 i hi
      have HV := hid (show findP gl lo k s = some (33, i) by unfold findP; rw [hi]; simp [hk5])
      clear HF1 HF2 HF3 HF4 hi
      rw [HV.out]
      unfold findV bareV
      go_enter Tryd.func61, Tryd.ntmps61
      go_wp2_with fail
      have W2 : (((w.alloc (Obj.cells #[.int .i64 k, .int .i64 o, .int .i64 n, .string s, .slice na nl nc, .slice ka kl kc, .int .i64 p] 25)).alloc (Obj.cells #[.int .i64 0, .int .i64 0, .int .i64 0, .string ⟨#[]⟩, .slice none 0 0, .slice none 0 0, .int .i64 0] 25)).alloc (Obj.cells #[.int .i64 0, .int .i64 0] 53)).cell? ⟨w.heap.size, 3, none⟩ = some (.string s) := by go_simp
      have W6 : (((w.alloc (Obj.cells #[.int .i64 k, .int .i64 o, .int .i64 n, .string s, .slice na nl nc, .slice ka kl kc, .int .i64 p] 25)).alloc (Obj.cells #[.int .i64 0, .int .i64 0, .int .i64 0, .string ⟨#[]⟩, .slice none 0 0, .slice none 0 0, .int .i64 0] 25)).alloc (Obj.cells #[.int .i64 0, .int .i64 0] 53)).cell? ⟨w.heap.size, 6, none⟩ = some (.int .i64 p) := by go_simp
      generalize hW : ((w.alloc (Obj.cells #[.int .i64 k, .int .i64 o, .int .i64 n, .string s, .slice na nl nc, .slice ka kl kc, .int .i64 p] 25)).alloc (Obj.cells #[.int .i64 0, .int .i64 0, .int .i64 0, .string ⟨#[]⟩, .slice none 0 0, .slice none 0 0, .int .i64 0] 25)).alloc (Obj.cells #[.int .i64 0, .int .i64 0] 53) = W at *
      have W0 : W.cell? ⟨r, 0, none⟩ = some (.map (some gm)) := (HA.out.cell (p := ⟨r, 0, none⟩) hr).trans r0
      have W1 : W.cell? ⟨r, 1, none⟩ = some (.map lq) := (HA.out.cell (p := ⟨r, 1, none⟩) hr).trans r1
      refine wp_region_held_drew (S := fun a => a = W.drew) (by kernel_rfl) rfl (fun hHeld => ?_)
      refine tkk 0 ?_
      refine tkk 1 ?_
      refine tkk 2 ?_
      refine tk 3 (v := ?v64) ?y64 ?_
      case y64 => (intro a hSw; subst hSw; go_simp <;> (try with_reducible rfl))
      refine tkk 4 ?_
      refine tk 5 (v := ?v66) ?y66 ?_
      case y66 => (intro a hSw; subst hSw; go_simp <;> (try with_reducible rfl))
      refine tk 6 (v := ?v67) ?y67 ?_
      case y67 => (intro a hSw; subst hSw; refine yield_lo (mo := .tmp 19) (x := .tmp 21) ?_ ?_ ?_ (loAt_on HL.out (Below.refl _ _).drew) hsl <;> rfl)
      rw [e1]
      refine tkk 7 ?_
      refine tkk 8 ?_
      refine tkk 9 ?_
      refine tkk 10 ?_
      refine tkk 11 ?_
      refine wpAnyH_done (by kernel_rfl) ?_ _
      subst hW
      go_wp2_with fail
      exact bodyPost_ret (ret_n2 rfl rfl rfl ⟨by go_simp, by go_simp, by go_simp, by go_simp, by go_simp, by go_simp, by go_simp⟩ ⟨by go_simp, by go_simp⟩) rfl ⟨rfl, ((((Below.refl w.heap.size w).alloc (Nat.le_refl _) _).alloc (by simp) _).alloc (by simp; omega) _).drew⟩
    | none =>
      have e1 := HF2 hi
      cases hj : idxN gl s with
      | some i =>
        have e2 := HF3 i hj
        have HV := hid (show findP gl lo k s = some (34, i) by unfold findP; rw [hi, hj]; simp [hk5])
        clear HF1 HF2 HF3 HF4 hi hj
        rw [HV.out]
        unfold findV bareV
        go_enter Tryd.func61, Tryd.ntmps61
        go_wp2_with fail
        have W2 : (((w.alloc (Obj.cells #[.int .i64 k, .int .i64 o, .int .i64 n, .string s, .slice na nl nc, .slice ka kl kc, .int .i64 p] 25)).alloc (Obj.cells #[.int .i64 0, .int .i64 0, .int .i64 0, .string ⟨#[]⟩, .slice none 0 0, .slice none 0 0, .int .i64 0] 25)).alloc (Obj.cells #[.int .i64 0, .int .i64 0] 53)).cell? ⟨w.heap.size, 3, none⟩ = some (.string s) := by go_simp
        have W6 : (((w.alloc (Obj.cells #[.int .i64 k, .int .i64 o, .int .i64 n, .string s, .slice na nl nc, .slice ka kl kc, .int .i64 p] 25)).alloc (Obj.cells #[.int .i64 0, .int .i64 0, .int .i64 0, .string ⟨#[]⟩, .slice none 0 0, .slice none 0 0, .int .i64 0] 25)).alloc (Obj.cells #[.int .i64 0, .int .i64 0] 53)).cell? ⟨w.heap.size, 6, none⟩ = some (.int .i64 p) := by go_simp
        generalize hW : ((w.alloc (Obj.cells #[.int .i64 k, .int .i64 o, .int .i64 n, .string s, .slice na nl nc, .slice ka kl kc, .int .i64 p] 25)).alloc (Obj.cells #[.int .i64 0, .int .i64 0, .int .i64 0, .string ⟨#[]⟩, .slice none 0 0, .slice none 0 0, .int .i64 0] 25)).alloc (Obj.cells #[.int .i64 0, .int .i64 0] 53) = W at *
        have W0 : W.cell? ⟨r, 0, none⟩ = some (.map (some gm)) := (HA.out.cell (p := ⟨r, 0, none⟩) hr).trans r0
        have W1 : W.cell? ⟨r, 1, none⟩ = some (.map lq) := (HA.out.cell (p := ⟨r, 1, none⟩) hr).trans r1
        refine wp_region_held_drew (S := fun a => a = W.drew) (by kernel_rfl) rfl (fun hHeld => ?_)
        refine tkk 0 ?_
        refine tkk 1 ?_
        refine tkk 2 ?_
        refine tk 3 (v := ?v76) ?y76 ?_
        case y76 => (intro a hSw; subst hSw; go_simp <;> (try with_reducible rfl))
        refine tkk 4 ?_
        refine tk 5 (v := ?v78) ?y78 ?_
        case y78 => (intro a hSw; subst hSw; go_simp <;> (try with_reducible rfl))
        refine tk 6 (v := ?v79) ?y79 ?_
        case y79 => (intro a hSw; subst hSw; refine yield_lo (mo := .tmp 19) (x := .tmp 21) ?_ ?_ ?_ (loAt_on HL.out (Below.refl _ _).drew) hsl <;> rfl)
        rw [e1]
        refine tkk 7 ?_
        refine tkk 8 ?_
        refine tkk 9 ?_
        refine tkk 10 ?_
        refine tkk 11 ?_
        refine wpAnyH_done (by kernel_rfl) ?_ _
        go_wp2_with fail
        refine wp_region_held_drew (S := fun a => a = W.drew.drew) (by kernel_rfl) rfl (fun hHeld => ?_)
        refine tkk 0 ?_
        refine tkk 1 ?_
        refine tkk 2 ?_
        refine tk 3 (v := ?v88) ?y88 ?_
        case y88 => (intro a hSw; subst hSw; go_simp <;> (try with_reducible rfl))
        refine tkk 4 ?_
        refine tk 5 (v := ?v90) ?y90 ?_
        case y90 => (intro a hSw; subst hSw; go_simp <;> (try with_reducible rfl))
        refine tk 6 (v := ?v91) ?y91 ?_
        case y91 => (intro a hSw; subst hSw; refine yield_lo (mo := .tmp 34) (x := .tmp 36) ?_ ?_ ?_ (loAt_on (show LoAt (.map (some gm)) gl W from .inr ⟨gm, rfl, HG.out⟩) (Below.refl _ _).drew.drew) hsl <;> rfl)
        rw [e2]
        refine tkk 7 ?_
        refine tkk 8 ?_
        refine tkk 9 ?_
        refine tkk 10 ?_
        refine tkk 11 ?_
        refine wpAnyH_done (by kernel_rfl) ?_ _
        subst hW
        go_wp2_with fail
        exact bodyPost_ret (ret_n2 rfl rfl rfl ⟨by go_simp, by go_simp, by go_simp, by go_simp, by go_simp, by go_simp, by go_simp⟩ ⟨by go_simp, by go_simp⟩) rfl ⟨rfl, ((((Below.refl w.heap.size w).alloc (Nat.le_refl _) _).alloc (by simp) _).alloc (by simp; omega) _).drew.drew⟩
      | none =>
        have e2 := HF4 hj
        have HV := hid (show findP gl lo k s = none by unfold findP; rw [hi, hj])
        clear HF1 HF2 HF3 HF4 hi hj
        rw [HV.out]
        unfold findV bareV
        go_enter Tryd.func61, Tryd.ntmps61
        go_wp2_with fail
        have W2 : (((w.alloc (Obj.cells #[.int .i64 k, .int .i64 o, .int .i64 n, .string s, .slice na nl nc, .slice ka kl kc, .int .i64 p] 25)).alloc (Obj.cells #[.int .i64 0, .int .i64 0, .int .i64 0, .string ⟨#[]⟩, .slice none 0 0, .slice none 0 0, .int .i64 0] 25)).alloc (Obj.cells #[.int .i64 0, .int .i64 0] 53)).cell? ⟨w.heap.size, 3, none⟩ = some (.string s) := by go_simp
        have W6 : (((w.alloc (Obj.cells #[.int .i64 k, .int .i64 o, .int .i64 n, .string s, .slice na nl nc, .slice ka kl kc, .int .i64 p] 25)).alloc (Obj.cells #[.int .i64 0, .int .i64 0, .int .i64 0, .string ⟨#[]⟩, .slice none 0 0, .slice none 0 0, .int .i64 0] 25)).alloc (Obj.cells #[.int .i64 0, .int .i64 0] 53)).cell? ⟨w.heap.size, 6, none⟩ = some (.int .i64 p) := by go_simp
        generalize hW : ((w.alloc (Obj.cells #[.int .i64 k, .int .i64 o, .int .i64 n, .string s, .slice na nl nc, .slice ka kl kc, .int .i64 p] 25)).alloc (Obj.cells #[.int .i64 0, .int .i64 0, .int .i64 0, .string ⟨#[]⟩, .slice none 0 0, .slice none 0 0, .int .i64 0] 25)).alloc (Obj.cells #[.int .i64 0, .int .i64 0] 53) = W at *
        have W0 : W.cell? ⟨r, 0, none⟩ = some (.map (some gm)) := (HA.out.cell (p := ⟨r, 0, none⟩) hr).trans r0
        have W1 : W.cell? ⟨r, 1, none⟩ = some (.map lq) := (HA.out.cell (p := ⟨r, 1, none⟩) hr).trans r1
        refine wp_region_held_drew (S := fun a => a = W.drew) (by kernel_rfl) rfl (fun hHeld => ?_)
        refine tkk 0 ?_
        refine tkk 1 ?_
        refine tkk 2 ?_
        refine tk 3 (v := ?v100) ?y100 ?_
        case y100 => (intro a hSw; subst hSw; go_simp <;> (try with_reducible rfl))
        refine tkk 4 ?_
        refine tk 5 (v := ?v102) ?y102 ?_
        case y102 => (intro a hSw; subst hSw; go_simp <;> (try with_reducible rfl))
        refine tk 6 (v := ?v103) ?y103 ?_
        case y103 => (intro a hSw; subst hSw; refine yield_lo (mo := .tmp 19) (x := .tmp 21) ?_ ?_ ?_ (loAt_on HL.out (Below.refl _ _).drew) hsl <;> rfl)
        rw [e1]
        refine tkk 7 ?_
        refine tkk 8 ?_
        refine tkk 9 ?_
        refine tkk 10 ?_
        refine tkk 11 ?_
        refine wpAnyH_done (by kernel_rfl) ?_ _
        go_wp2_with fail
        refine wp_region_held_drew (S := fun a => a = W.drew.drew) (by kernel_rfl) rfl (fun hHeld => ?_)
        refine tkk 0 ?_
        refine tkk 1 ?_
        refine tkk 2 ?_
        refine tk 3 (v := ?v112) ?y112 ?_
        case y112 => (intro a hSw; subst hSw; go_simp <;> (try with_reducible rfl))
        refine tkk 4 ?_
        refine tk 5 (v := ?v114) ?y114 ?_
        case y114 => (intro a hSw; subst hSw; go_simp <;> (try with_reducible rfl))
        refine tk 6 (v := ?v115) ?y115 ?_
        case y115 => (intro a hSw; subst hSw; refine yield_lo (mo := .tmp 34) (x := .tmp 36) ?_ ?_ ?_ (loAt_on (show LoAt (.map (some gm)) gl W from .inr ⟨gm, rfl, HG.out⟩) (Below.refl _ _).drew.drew) hsl <;> rfl)
        rw [e2]
        refine tkk 7 ?_
        refine tkk 8 ?_
        refine tkk 9 ?_
        refine tkk 10 ?_
        refine tkk 11 ?_
        refine wpAnyH_done (by kernel_rfl) ?_ _
        subst hW
        go_wp2_with fail
        go_region
        all_goals
          go_wp2_with fail
          exact bodyPost_ret (ret_n2 rfl rfl rfl ⟨by go_simp, by go_simp, by go_simp, by go_simp, by go_simp, by go_simp, by go_simp⟩ ⟨by go_simp, by go_simp⟩) rfl ⟨rfl, ((((Below.refl w.heap.size w).alloc (Nat.le_refl _) _).alloc (by simp) _).alloc (by simp; omega) _).drew.drew.drew⟩

end Go.Proofs.YtmihckhflbepjaaDoor
