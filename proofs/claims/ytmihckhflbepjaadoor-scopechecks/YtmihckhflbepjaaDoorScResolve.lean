/- Resolve. -/
import Derived.Test.YtmihckhflbepjaaDoorTk
import Derived.Test.YtmihckhflbepjaaDoorJoint9
import Derived.Test.YtmihckhflbepjaaDoorScWhole
import Derived.Test.YtmihckhflbepjaaDoorJoint8
namespace Go.Proofs.YtmihckhflbepjaaDoor
set_option linter.unusedSimpArgs false
open Go.RowKit

/-- the functions of a unit, in blocks from lo on -/
def UnS (lo : Nat) (w : World) (fv : Value) (fs : List Fp) : Prop := ∃ ok, FnsS ok w fv fs ∧ (∀ b, ok b → lo ≤ b ∧ b < w.heap.size) ∧ ∀ g, fv.ownBlock = some g → lo ≤ g
theorem unS_on {lo : Nat} {a c : World} {fv : Value} {fs : List Fp} (h : UnS lo a fv fs) (k : Below a.heap.size a c) : UnS lo c fv fs := by
  obtain ⟨ok, h1, h2, h3⟩ := h
  have hz := k.size
  refine ⟨ok, fnsS_keep h1 (fun b hb => ⟨hb, k.block b (h2 b hb).2⟩) (fun g hg => ?_), fun b hb => ⟨(h2 b hb).1, by have := (h2 b hb).2; omega⟩, h3⟩
  obtain ⟨cur, hc⟩ := fnsS_lt h1 hg
  obtain ⟨cs, _, _, h6⟩ := h1
  exact ⟨k.block g (blk_lt hc), h6 g hg⟩
def ResOut (w : World) (x : Rz Up8) (e : Ending) (w' : World) : Prop :=
  Below w.heap.size w w' ∧ match x with
  | .bad p er => e = .returned (.tuple #[.agg #[.int .i64 0, .slice none 0 0], .int .i64 p, .int .i64 er])
  | .ok (G, fs) => ∃ fv, e = .returned (.tuple #[.agg #[.int .i64 (G : Int), fv], .int .i64 0, .int .i64 0]) ∧ UnS w.heap.size w' fv fs
theorem ret_u {fn : Func} {t u v : Tmp} (h : fn.results = #[.cell t 30, .tmp u, .tmp v]) {tmps : Array Value} {g : Nat} {w : World} {x y : Value} (ht : tmps.getD t undef = .pointer (some ⟨g, 0, none⟩))
    (c : w.cell? ⟨g, 0, none⟩ = some x ∧ w.cell? ⟨g, 1, none⟩ = some y) :
    (results fn tmps).run Tryd.prog w = .ok (.tuple #[.agg #[x, y], tmps.getD u undef, tmps.getD v undef]) w := by
  rw [Array.getD_eq_getD_getElem?] at ht
  simp [results, h, ht, go_sem, asAddr, c.1, c.2]
theorem resolveP_mk (t : Nd) : resolveP t = if checkN t = 0 then wholeP t.kids else .bad 0 (checkN t) := rfl

theorem wholeP_bad {ks : List Nd} {p e : Int} (h : wholeP ks = .bad p e) : e ≠ 0 := by
  unfold wholeP at h
  cases h1 : letL ks [] with
  | bad q e' => rw [h1] at h; cases h; exact letL_bad ks h1
  | ok gl =>
    rw [h1, Rz.bind_ok] at h
    cases h2 : resL gl ks [] [(0, 0, [])] with
    | bad q e' => rw [h2] at h; cases h; exact resL_bad ks h2
    | ok a => rw [h2] at h; cases h
set_option maxHeartbeats 4000000 in
theorem resolve_calls (t : Nd) (B : Nat) (w : World) (nv kv : Value) (hO : Hid (Ok B w)) (hN : Hid (NdIn B w t nv kv)) (hs : smallN t = true) (hc : countN t ≤ 1000000) :
    Calls Tryd.prog 9 #[.agg #[.int .i64 t.kind, .int .i64 t.op, .int .i64 t.num, .string t.str, nv, kv, .int .i64 t.pl]] w (ResOut w (resolveP t)) := by
  obtain ⟨a1, q1, a2, q2, rfl, rfl⟩ := ndIn_shape hN.out
  have hck : countL t.kids ≤ 1000000 := by
    obtain ⟨k, o, n, s, ns, ks, p⟩ := t
    rw [countN] at hc
    show countL ks ≤ 1000000
    omega
  have hB := hO.out.1
  have A1 := (Below.refl w.heap.size w).alloc (Nat.le_refl _) (.cells #[.int .i64 t.kind, .int .i64 t.op, .int .i64 t.num, .string t.str, .slice a1 t.names.length q1, .slice a2 t.kids.length q2, .int .i64 t.pl] 25)
  have A2 := A1.alloc (by simp) (.cells #[.int .i64 0, .slice none 0 0] 30)
  have x1 := blk_on (blk_new w 25 #[.int .i64 t.kind, .int .i64 t.op, .int .i64 t.num, .string t.str, .slice a1 t.names.length q1, .slice a2 t.kids.length q2, .int .i64 t.pl]) ((Below.refl _ _).alloc (Nat.le_refl _) (.cells #[.int .i64 0, .slice none 0 0] 30))
  have x2 := blk_new (w.alloc (.cells #[.int .i64 t.kind, .int .i64 t.op, .int .i64 t.num, .string t.str, .slice a1 t.names.length q1, .slice a2 t.kids.length q2, .int .i64 t.pl] 25)) 30 #[.int .i64 0, .slice none 0 0]
  rw [World.size_alloc] at x2
  generalize hW2 : (w.alloc (.cells #[.int .i64 t.kind, .int .i64 t.op, .int .i64 t.num, .string t.str, .slice a1 t.names.length q1, .slice a2 t.kids.length q2, .int .i64 t.pl] 25)).alloc (.cells #[.int .i64 0, .slice none 0 0] 30) = w2 at *
  have HC := hid (check_tree t B w2 _ _ (ok_on hO.out (A2.mono hB)) (ndIn_on (A2.mono hB) _ _ _ hN.out) hs hc)
  have N2 := hid (ndIn_up hB _ _ _ (ndIn_on (A2.mono hB) _ _ _ hN.out))
  have HA2 := hid A2
  have X1 := hid x1
  have X2 := hid x2
  have hz2 : w2.heap.size = w.heap.size + 1 + 1 := by rw [← hW2]; simp
  have HP := hid (resolveP_mk t)
  obtain ⟨b0, b1, b2, b3, b4, b5, b6⟩ : w2.cell? ⟨w.heap.size, 0, none⟩ = some (.int .i64 t.kind) ∧ w2.cell? ⟨w.heap.size, 1, none⟩ = some (.int .i64 t.op) ∧ w2.cell? ⟨w.heap.size, 2, none⟩ = some (.int .i64 t.num) ∧ w2.cell? ⟨w.heap.size, 3, none⟩ = some (.string t.str) ∧ w2.cell? ⟨w.heap.size, 4, none⟩ = some (.slice a1 t.names.length q1) ∧ w2.cell? ⟨w.heap.size, 5, none⟩ = some (.slice a2 t.kids.length q2) ∧ w2.cell? ⟨w.heap.size, 6, none⟩ = some (.int .i64 t.pl) := by
    refine ⟨?_, ?_, ?_, ?_, ?_, ?_, ?_⟩ <;> rw [blk_cell x1] <;> rfl
  have HZ2 := hid hz2
  have hlw2 : w.heap.size + 1 < w2.heap.size := by omega
  clear A1 A2 x1 x2 hO hN hz2
  go_enter Tryd.func9, Tryd.ntmps9
  go_wp2_with fail
  refine HC.out.mono ?_
  rintro e3 w3 ⟨rfl, c3⟩
  have C3 := hid c3
  have hs3 := c3.size
  have Y1 := hid (blk_on X1.out c3)
  have Y2 := hid (blk_on X2.out c3)
  have B3 := hid (below_on HA2.out c3)
  clear c3 HC
  by_cases hk : checkN t = 0
  · rw [if_pos hk] at HP
    rw [hk]
    have HW := hid (whole_of t.kids (each_calls t.kids) (lets_calls t.kids hck))
    have A4 := (Below.refl w3.heap.size w3).alloc (Nat.le_refl _) (.map #[] 0)
    have A5 := A4.alloc (by simp) (.cells #[.map (some w3.heap.size), .map none, .slice none 0 0] 51)
    have m5 := nmAt_keep (nmAt_new w3) (((Below.refl (w3.alloc (.map #[] 0)).heap.size _).alloc (Nat.le_refl _) (.cells #[.map (some w3.heap.size), .map none, .slice none 0 0] 51)).block w3.heap.size (by simp))
    have r5 := blk_new (w3.alloc (.map #[] 0)) 51 #[.map (some w3.heap.size), .map none, .slice none 0 0]
    rw [World.size_alloc] at r5
    have hkids : KidsIn w.heap.size w3 (.slice a2 t.kids.length q2) t.kids := by
      have := ndIn_on (C3.out.mono (by omega)) _ _ _ N2.out
      obtain ⟨k, o, n, s, ns, ks, p⟩ := t
      exact (ndIn_mk.1 this).2
    have k5 := kidsIn_on A5 (kidsIn_up (by omega) hkids)
    have z1 := blk_on Y1.out A5
    have c5 : ((w3.alloc (.map #[] 0)).alloc (.cells #[.map (some w3.heap.size), .map none, .slice none 0 0] 51)).cell? ⟨w.heap.size, 5, none⟩ = some (.slice a2 t.kids.length q2) := by rw [blk_cell z1]; rfl
    have Z2 := hid (blk_on Y2.out A5)
    have B5 := hid (below_on B3.out A5)
    have HA5 := hid A5
    have hsk : ∀ x ∈ t.kids, smallN x = true := by
      obtain ⟨k, o, n, s, ns, ks, p⟩ := t
      exact (small_mk hs).2.2.2
    have hz5 : ((w3.alloc (.map #[] 0)).alloc (.cells #[.map (some w3.heap.size), .map none, .slice none 0 0] 51)).heap.size = w3.heap.size + 1 + 1 := by simp
    have hmk : ∀ w, (Instr.makeMap 49 none).run Tryd.prog w = .ok (.map (some w.heap.size)) (w.alloc (.map #[] 0)) := fun w => by simp [Instr.makeMap]
    have HX := hid (HW.out w3.heap.size (w3.heap.size + 1) w3.heap.size (.slice a2 t.kids.length q2) _ (hid r5) (hid m5) (by omega) (by omega) (hid k5) (by omega) hsk hck)
    clear HW A4 A5 m5 r5 k5 z1 hkids hk hW2
    go_wp2_with fail
    refine HX.out.mono ?_
    generalize hW5 : (w3.alloc (.map #[] 0)).alloc (.cells #[.map (some w3.heap.size), .map none, .slice none 0 0] 51) = w5 at *
    intro e6 w6 h6
    obtain ⟨b6, h6⟩ := h6
    have B6 := hid (B5.out.trans (b6.mono (by omega)))
    have hs6 := b6.size
    have f6 : Blk (w.heap.size + 1) 30 #[.int .i64 0, .slice none 0 0] w6 := (b6.block (w.heap.size + 1) (by omega)).trans Z2.out
    have F6 := hid f6
    obtain ⟨y0, y1, y2, y3⟩ : w6.cell? ⟨w.heap.size + 1, 0, none⟩ = some (.int .i64 0) ∧ w6.cell? ⟨w.heap.size + 1, 1, none⟩ = some (.slice none 0 0) ∧ w6.frozen? ⟨w.heap.size + 1, 0, none⟩ = false ∧ w6.frozen? ⟨w.heap.size + 1, 1, none⟩ = false :=
      ⟨by rw [blk_cell f6]; rfl, by rw [blk_cell f6]; rfl, blk_free f6 0, blk_free f6 1⟩
    cases hR : wholeP t.kids with
    | bad p er =>
      rw [hR] at h6 HP
      obtain rfl := h6
      have her : er ≠ 0 := wholeP_bad hR
      have hne : (er != 0) = true := by simpa using her
      have FC := hid (found_calls p er (w6.alloc (Obj.cells #[.int .i64 p, .int .i64 er] 53)))
      have A7 := hid ((Below.refl w6.heap.size w6).alloc (Nat.le_refl _) (Obj.cells #[.int .i64 p, .int .i64 er] 53))
      clear hR b6 f6
      unfold fltP
      go_wp2_with fail
      refine FC.out.mono ?_
      rintro e7 w7 ⟨rfl, b7⟩
      have B7 := below_on A7.out b7
      have f7 := blk_on F6.out B7
      obtain ⟨x0, x1, x2, x3⟩ : w7.cell? ⟨w.heap.size + 1, 0, none⟩ = some (.int .i64 0) ∧ w7.cell? ⟨w.heap.size + 1, 1, none⟩ = some (.slice none 0 0) ∧ w7.frozen? ⟨w.heap.size + 1, 0, none⟩ = false ∧ w7.frozen? ⟨w.heap.size + 1, 1, none⟩ = false :=
        ⟨by rw [blk_cell f7]; rfl, by rw [blk_cell f7]; rfl, blk_free f7 0, blk_free f7 1⟩
      obtain ⟨v0, v1, _, _⟩ := flt_two (blk_on (blk_new w6 53 #[.int .i64 p, .int .i64 er]) b7)
      have hz7 := B7.size
      have hne1 : w6.heap.size ≠ w.heap.size + 1 := by omega
      have hne2 : w.heap.size + 1 ≠ w6.heap.size := by omega
      have HB7 := hid B7
      have F7 := hid f7
      clear b7 B7 f7 FC
      go_wp2_with fail
      go_region
      go_wp2_with fail
      have P0 := blk_set (blk_set F7.out 0 (.int .i64 0)) 1 (.slice none 0 0)
      have KF := (Keep.set (S := fun b => b = w.heap.size + 1) rfl w7 0 (.int .i64 0)).trans (Keep.set (S := fun b => b = w.heap.size + 1) rfl (w7.setCell ⟨w.heap.size + 1, 0, none⟩ (.int .i64 0)) 1 (.slice none 0 0)) (fun _ _ h => h)
      refine bodyPost_ret (ret_u (g := w.heap.size + 1) (x := .int .i64 0) (y := .slice none 0 0) rfl rfl ⟨by go_simp, by go_simp⟩) rfl ?_
      rw [HP.out]
      refine ⟨?_, rfl⟩
      have K0 := ((Keep.of (S := fun b => w.heap.size ≤ b) (below_on B6.out HB7.out)).trans (KF.mono (T := fun b => w.heap.size ≤ b) (fun b _ e => by have : b = w.heap.size + 1 := e; omega)) (fun _ _ h => h)).below (Nat.le_refl _) (fun _ h => h)
      exact K0.drew
    | ok u =>
      obtain ⟨G, fs⟩ := u
      rw [hR] at h6 HP
      obtain ⟨rfl, fv, gl, ok, rfl, hRs⟩ := h6
      have FC := hid (found_calls 0 0 (w6.alloc (Obj.cells #[.int .i64 0, .int .i64 0] 53)))
      have A7 := hid ((Below.refl w6.heap.size w6).alloc (Nat.le_refl _) (Obj.cells #[.int .i64 0, .int .i64 0] 53))
      have HRs := hid hRs
      clear hR b6 f6 hRs
      unfold fltP
      go_wp2_with fail
      refine FC.out.mono ?_
      rintro e7 w7 ⟨rfl, b7⟩
      have B7 := below_on A7.out b7
      have f7 := blk_on F6.out B7
      have R7 := HRs.out.on B7
      obtain ⟨fa, fc, rfl⟩ := fnsS_shape R7.fn
      obtain ⟨x0, x1, x2, x3⟩ : w7.cell? ⟨w.heap.size + 1, 0, none⟩ = some (.int .i64 0) ∧ w7.cell? ⟨w.heap.size + 1, 1, none⟩ = some (.slice none 0 0) ∧ w7.frozen? ⟨w.heap.size + 1, 0, none⟩ = false ∧ w7.frozen? ⟨w.heap.size + 1, 1, none⟩ = false :=
        ⟨by rw [blk_cell f7]; rfl, by rw [blk_cell f7]; rfl, blk_free f7 0, blk_free f7 1⟩
      obtain ⟨v0, v2⟩ : w7.cell? ⟨w3.heap.size + 1, 0, none⟩ = some (.map (some w3.heap.size)) ∧ w7.cell? ⟨w3.heap.size + 1, 2, none⟩ = some (.slice fa fs.length fc) := ⟨by rw [blk_cell R7.blk]; rfl, by rw [blk_cell R7.blk]; rfl⟩
      have hz7 := B7.size
      have HB7 := hid B7
      have F7 := hid f7
      have HR7 := hid R7
      have hn7 := R7.gs
      have hne1 : w3.heap.size + 1 ≠ w.heap.size + 1 := by omega
      have hne3 : w3.heap.size ≠ w.heap.size + 1 := by omega
      clear b7 B7 f7 FC R7
      go_wp2_with fail
      refine wp_region_held_drew (S := fun a => (a.cell? ⟨w3.heap.size + 1, 0, none⟩ = some (.map (some w3.heap.size)) ∧ a.cell? ⟨w3.heap.size + 1, 2, none⟩ = some (.slice fa fs.length fc)) ∧ NmAt w3.heap.size gl a) (by kernel_rfl) ⟨⟨v0, v2⟩, nmAt_keep hn7 rfl⟩ (fun hHeld => ?_)
      refine tkk 0 ?_
      refine tkk 1 ?_
      refine tkk 2 ?_
      refine tkk 3 ?_
      refine tk 4 (v := ?v5) ?y5 ?_
      case y5 => (intro a hSw; refine yield_nlen (mo := .tmp 31) ?_ ?_ hSw.2 <;> rfl)
      refine tkk 5 ?_
      refine tkk 6 ?_
      refine tkk 7 ?_
      refine tkk 8 ?_
      refine tkk 9 ?_
      refine rdy 10 (fun K hK => ?_)
      go_simp
      have KF := (Keep.set (S := fun b => b = w.heap.size + 1) rfl w7 0 (.int .i64 (gl.length : Int))).trans (Keep.set (S := fun b => b = w.heap.size + 1) rfl (w7.setCell ⟨w.heap.size + 1, 0, none⟩ (.int .i64 (gl.length : Int))) 1 (.slice fa fs.length fc)) (fun _ _ h => h)
      refine hK.out _ _ ⟨⟨by go_simp, by go_simp⟩, nmAt_keep (nmAt_keep hn7 (KF.block w3.heap.size (nmAt_lt hn7) hne3)) rfl⟩ (fun _ => ?_)
      clear hK K
      refine tkk 11 ?_
      refine tkk 12 ?_
      refine wpAnyH_done (by kernel_rfl) ?_ _
      go_wp2_with fail
      refine bodyPost_ret (ret_u (g := w.heap.size + 1) (x := .int .i64 (gl.length : Int)) (y := .slice fa fs.length fc) rfl rfl ⟨by go_simp, by go_simp⟩) rfl ?_
      rw [HP.out]
      have K0 := ((Keep.of (S := fun b => w.heap.size ≤ b) (below_on B6.out HB7.out)).trans (KF.mono (T := fun b => w.heap.size ≤ b) (fun b _ e => by have : b = w.heap.size + 1 := e; omega)) (fun _ _ h => h)).below (Nat.le_refl _) (fun _ h => h)
      refine ⟨K0.drew, _, rfl, ?_⟩
      have R8 := (HR7.out.keep KF (by omega) (by omega) (fun b e => by simp at e) (fun g hg => by have := HR7.out.lb.2.2.2.1 g hg; omega) (fun b hb => by have := HR7.out.lb.2.2.2.2 b hb; omega)).on (Below.refl _ _).drew
      exact ⟨ok, R8.fn, fun b hb => ⟨by have := R8.lb.2.2.2.2 b hb; omega, (R8.lt b hb).1⟩, fun g hg => by have := R8.lb.2.2.2.1 g hg; omega⟩
  · rw [if_neg hk] at HP
    have hne : (checkN t != 0) = true := by simpa using hk
    obtain ⟨y0, y1, y2, y3⟩ : w3.cell? ⟨w.heap.size + 1, 0, none⟩ = some (.int .i64 0) ∧ w3.cell? ⟨w.heap.size + 1, 1, none⟩ = some (.slice none 0 0) ∧ w3.frozen? ⟨w.heap.size + 1, 0, none⟩ = false ∧ w3.frozen? ⟨w.heap.size + 1, 1, none⟩ = false :=
      ⟨by rw [blk_cell Y2.out]; rfl, by rw [blk_cell Y2.out]; rfl, blk_free Y2.out 0, blk_free Y2.out 1⟩
    generalize checkN t = ck at *
    clear hk hW2
    go_wp2_with fail
    have P0 := blk_set (blk_set Y2.out 0 (.int .i64 0)) 1 (.slice none 0 0)
    refine bodyPost_ret (ret_u rfl rfl ⟨by rw [blk_cell P0]; rfl, by rw [blk_cell P0]; rfl⟩) rfl ?_
    rw [HP.out]
    have KF := (Keep.set (S := fun b => b = w.heap.size + 1) rfl w3 0 (.int .i64 0)).trans (Keep.set (S := fun b => b = w.heap.size + 1) rfl (w3.setCell ⟨w.heap.size + 1, 0, none⟩ (.int .i64 0)) 1 (.slice none 0 0)) (fun _ _ h => h)
    refine ⟨?_, rfl⟩
    exact ((Keep.of (S := fun b => w.heap.size ≤ b) B3.out).trans (KF.mono (T := fun b => w.heap.size ≤ b) (fun b _ e => by have : b = w.heap.size + 1 := e; omega)) (fun _ _ h => h)).below (Nat.le_refl _) (fun _ h => h)

end Go.Proofs.YtmihckhflbepjaaDoor
