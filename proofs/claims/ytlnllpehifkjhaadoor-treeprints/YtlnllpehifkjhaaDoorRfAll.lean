/- Right trees as the document writes them, and its Print. -/
import Derived.Test.YtlnllpehifkjhaaDoorJoint12
import Derived.Test.YtlnllpehifkjhaaDoorRfCall2
import Derived.Test.YtlnllpehifkjhaaDoorJoint13
import Derived.Test.YtlnllpehifkjhaaDoorJoint14
import Derived.Test.YtlnllpehifkjhaaDoorRfExpr
import Derived.Test.YtlnllpehifkjhaaDoorRfBin
import Derived.Test.YtlnllpehifkjhaaDoorJoint15
import Derived.Test.YtlnllpehifkjhaaDoorJoint16
import Derived.Test.YtlnllpehifkjhaaDoorRfRight
import Derived.Test.YtlnllpehifkjhaaDoorPsRight
namespace Go.Proofs.YtlnllpehifkjhaaDoor
open Go.RowKit

def RDoc (a : Nat) (t : Nd) : Prop := (a = 1 → RExprAt t) ∧ (a = 2 → RStmtAt t) ∧ (a = 3 → ∀ x ∈ t.kids, RStmtAt x)
theorem docE {t : Nd} (h : RExprAt t) : RDoc 1 t := ⟨fun _ => h, fun h => (by cases h), fun h => (by cases h)⟩
theorem docS {t : Nd} (h : RStmtAt t) : RDoc 2 t := ⟨fun h => (by cases h), fun _ => h, fun h => (by cases h)⟩
theorem rt_10 {a : Nat} {x : Nd} (h : Rt a x) : x.kind = 10 → 1 ≤ x.op ∧ x.op ≤ 11 := by
  intro hk
  cases h with
  | bin o x y p ho hx hy => exact ho
  | _ => simp [Nd.kind] at hk
theorem sum4_count : ∀ ks : List Nd, (∀ x ∈ ks, smallN x = true) → sum4 (ks.map textN) ≤ 10010 * countL ks
  | [], _ => by simp [sum4]
  | y :: r, h => by
    have h1 := text_len y (h y (by simp))
    have h2 := sum4_count r (fun z hz => h z (by simp [hz]))
    rw [List.map_cons, sum4_cons, countL]
    omega
/-- what is known of a kid -/
theorem kid_ok {k o n : Int} {s : ByteArray} {ns : List ByteArray} {ks : List Nd} {p : Int} (hs : smallN (.mk k o n s ns ks p) = true) (hc : countN (.mk k o n s ns ks p) ≤ 1000) {x : Nd} (hx : x ∈ ks) :
    smallN x = true ∧ countN x ≤ 1000 ∧ (textN x).e.length ≤ 100000000 := by
  obtain ⟨_, _, _, hk⟩ := small_mk hs
  have h1 := count_mem hx
  rw [countN] at hc
  have h2 := text_len x (hk x hx)
  have h3 := mx_e (textN x)
  exact ⟨hk x hx, by omega, by omega⟩
theorem kids_ok {k o n : Int} {s : ByteArray} {ns : List ByteArray} {ks : List Nd} {p : Int} (hs : smallN (.mk k o n s ns ks p) = true) (hc : countN (.mk k o n s ns ks p) ≤ 1000) :
    sum4 (ks.map textN) ≤ 100000000 ∧ ks.length ≤ 1000 := by
  obtain ⟨_, _, _, hk⟩ := small_mk hs
  have h1 := sum4_count ks hk
  have h2 := length_count ks
  rw [countN] at hc
  exact ⟨by omega, by omega⟩
theorem block_ok {x : Nd} (hs : smallN x = true) (hc : countN x ≤ 1000) : sum4 (x.kids.map textN) ≤ 100000000 ∧ x.kids.length ≤ 1000000 := by
  obtain ⟨k, o, n, s, ns, ks, p⟩ := x
  obtain ⟨h1, h2⟩ := kids_ok hs hc
  exact ⟨h1, by show ks.length ≤ 1000000; omega⟩
theorem bz_600 : bz.size ≤ 600 := by decide

theorem rdoc {a : Nat} {t : Nd} (h : Rt a t) : smallN t = true → countN t ≤ 1000 → RDoc a t := by
  induction h with
  | null p => intro hs hc; exact docE (rexpr_word 1 0 0 bz [] [] p (by omega) (by omega) (by omega) bz_600)
  | bool n p hn => intro hs hc; exact docE (rexpr_word 2 0 n bz [] [] p (by omega) (by omega) (by omega) bz_600)
  | int n p hn => intro hs hc; exact docE (rexpr_word 3 0 n bz [] [] p (by omega) (by omega) (by omega) bz_600)
  | str s p h256 => intro hs hc; exact docE (rexpr_word 4 0 0 s [] [] p (by omega) (by omega) (by omega) (small_mk hs).1)
  | name s p hn => intro hs hc; exact docE (rexpr_word 5 0 0 s [] [] p (by omega) (by omega) (by omega) (small_mk hs).1)
  | this p => intro hs hc; exact docE (rexpr_word 6 0 0 bz [] [] p (by omega) (by omega) (by omega) bz_600)
  | obj ns ks p hl hm hns hk ih =>
    intro hs hc
    obtain ⟨k1, k2⟩ := kids_ok hs hc
    exact docE (rexpr_7 0 0 bz ns ks p hl.symm (fun x hx => (ih x hx (kid_ok hs hc hx).1 (kid_ok hs hc hx).2.1).1 rfl) k1 k2 (small_mk hs).2.2.1)
  | fn ns ks p hm hns hc0 hk ih =>
    intro hs hc
    obtain ⟨k1, k2⟩ := kids_ok hs hc
    exact docE (rexpr_8 0 0 bz ns ks p (fun x hx => (ih x hx (kid_ok hs hc hx).1 (kid_ok hs hc hx).2.1).2.1 rfl) k1 k2 (by omega) (small_mk hs).2.2.1)
  | un o x p ho hx ix =>
    intro hs hc
    obtain ⟨x1, x2, x3⟩ := kid_ok hs hc (x := x) (by simp)
    rcases ho with rfl | rfl
    · exact docE (rexpr_9_1 0 bz [] x p ((ix x1 x2).1 rfl) (rt_10 hx) x3 bz_600)
    · exact docE (rexpr_9_2 0 bz [] x p ((ix x1 x2).1 rfl) (rt_10 hx) x3 bz_600)
  | bin o x y p ho hx hy ix iy =>
    intro hs hc
    obtain ⟨x1, x2, x3⟩ := kid_ok hs hc (x := x) (by simp)
    obtain ⟨y1, y2, y3⟩ := kid_ok hs hc (x := y) (by simp)
    exact docE (rexpr_10 o 0 bz [] x y p ((ix x1 x2).1 rfl) x3 ((iy y1 y2).1 rfl) y3 ho _ rfl (rt_10 hy) (rt_10 hx) bz_600)
  | and x y p hx hy ix iy =>
    intro hs hc
    obtain ⟨x1, x2, x3⟩ := kid_ok hs hc (x := x) (by simp)
    obtain ⟨y1, y2, y3⟩ := kid_ok hs hc (x := y) (by simp)
    exact docE (rexpr_11 0 0 bz [] x y p ((ix x1 x2).1 rfl) x3 ((iy y1 y2).1 rfl) y3 (rt_10 hy) (rt_10 hx) bz_600)
  | or x y p hx hy ix iy =>
    intro hs hc
    obtain ⟨x1, x2, x3⟩ := kid_ok hs hc (x := x) (by simp)
    obtain ⟨y1, y2, y3⟩ := kid_ok hs hc (x := y) (by simp)
    exact docE (rexpr_12 0 0 bz [] x y p ((ix x1 x2).1 rfl) x3 ((iy y1 y2).1 rfl) y3 (rt_10 hy) (rt_10 hx) bz_600)
  | get s x p hp hx ix =>
    intro hs hc
    obtain ⟨x1, x2, x3⟩ := kid_ok hs hc (x := x) (by simp)
    exact docE (rexpr_13 0 0 s [] x p ((ix x1 x2).1 rfl) (rt_10 hx) x3 (small_mk hs).1)
  | index x y p hx hy ix iy =>
    intro hs hc
    obtain ⟨x1, x2, x3⟩ := kid_ok hs hc (x := x) (by simp)
    obtain ⟨y1, y2, y3⟩ := kid_ok hs hc (x := y) (by simp)
    exact docE (rexpr_14 0 0 bz [] x y p ((ix x1 x2).1 rfl) x3 ((iy y1 y2).1 rfl) y3 (rt_10 hx) bz_600)
  | call x ks p hc0 hx hk ix ik =>
    intro hs hc
    obtain ⟨x1, x2, x3⟩ := kid_ok hs hc (x := x) (by simp)
    obtain ⟨k1, k2⟩ := kids_ok hs hc
    rw [List.map_cons, sum4_cons] at k1
    exact docE (rexpr_15 0 0 bz [] x ks p ((ix x1 x2).1 rfl) (fun z hz => (ik z hz (kid_ok hs hc (by simp [hz])).1 (kid_ok hs hc (by simp [hz])).2.1).1 rfl) (rt_10 hx) x3 bz_600 (by omega) (by omega))
  | meth s x ks p hp hc0 hx hk ix ik =>
    intro hs hc
    obtain ⟨x1, x2, x3⟩ := kid_ok hs hc (x := x) (by simp)
    obtain ⟨k1, k2⟩ := kids_ok hs hc
    rw [List.map_cons, sum4_cons] at k1
    exact docE (rexpr_16 0 0 s [] x ks p ((ix x1 x2).1 rfl) (fun z hz => (ik z hz (kid_ok hs hc (by simp [hz])).1 (kid_ok hs hc (by simp [hz])).2.1).1 rfl) (rt_10 hx) x3 (small_mk hs).1 (by omega) (by omega))
  | built o ks p ho hc0 hk ik =>
    intro hs hc
    obtain ⟨k1, k2⟩ := kids_ok hs hc
    exact docE (rexpr_17 o 0 bz [] ks p (fun z hz => (ik z hz (kid_ok hs hc hz).1 (kid_ok hs hc hz).2.1).1 rfl) k1 (by omega))
  | slet s x p hp hx ix =>
    intro hs hc
    obtain ⟨x1, x2, x3⟩ := kid_ok hs hc (x := x) (by simp)
    exact docS (rstmt_21 0 0 s [] x p ((ix x1 x2).1 rfl) (rt_10 hx) x3 (small_mk hs).1)
  | assign s x p hp hx ix =>
    intro hs hc
    obtain ⟨x1, x2, x3⟩ := kid_ok hs hc (x := x) (by simp)
    exact docS (rstmt_22 0 0 s [] x p ((ix x1 x2).1 rfl) (rt_10 hx) x3 (small_mk hs).1)
  | set s x y p hp hx hy ix iy =>
    intro hs hc
    obtain ⟨x1, x2, x3⟩ := kid_ok hs hc (x := x) (by simp)
    obtain ⟨y1, y2, y3⟩ := kid_ok hs hc (x := y) (by simp)
    exact docS (rstmt_23 0 0 s [] x y p ((ix x1 x2).1 rfl) x3 ((iy y1 y2).1 rfl) y3 (rt_10 hx) (small_mk hs).1)
  | setix x y z p hx hy hz ix iy iz =>
    intro hs hc
    obtain ⟨x1, x2, x3⟩ := kid_ok hs hc (x := x) (by simp)
    obtain ⟨y1, y2, y3⟩ := kid_ok hs hc (x := y) (by simp)
    obtain ⟨z1, z2, z3⟩ := kid_ok hs hc (x := z) (by simp)
    exact docS (rstmt_24 0 0 bz [] x y z p ((ix x1 x2).1 rfl) x3 ((iy y1 y2).1 rfl) y3 ((iz z1 z2).1 rfl) z3 (rt_10 hx) bz_600)
  | del s x p hp hx ix =>
    intro hs hc
    obtain ⟨x1, x2, x3⟩ := kid_ok hs hc (x := x) (by simp)
    exact docS (rstmt_25 0 0 s [] x p ((ix x1 x2).1 rfl) (rt_10 hx) x3 (small_mk hs).1)
  | delix x y p hx hy ix iy =>
    intro hs hc
    obtain ⟨x1, x2, x3⟩ := kid_ok hs hc (x := x) (by simp)
    obtain ⟨y1, y2, y3⟩ := kid_ok hs hc (x := y) (by simp)
    exact docS (rstmt_26 0 0 bz [] x y p ((ix x1 x2).1 rfl) x3 ((iy y1 y2).1 rfl) y3 (rt_10 hx) bz_600)
  | print x p hx ix =>
    intro hs hc
    obtain ⟨x1, x2, x3⟩ := kid_ok hs hc (x := x) (by simp)
    exact docS (rstmt_27 0 0 bz [] x p ((ix x1 x2).1 rfl) (rt_10 hx) x3 bz_600)
  | ret x p hx ix =>
    intro hs hc
    obtain ⟨x1, x2, x3⟩ := kid_ok hs hc (x := x) (by simp)
    exact docS (rstmt_31 0 0 bz [] x p ((ix x1 x2).1 rfl) (rt_10 hx) x3 bz_600)
  | sexpr x p hx ix =>
    intro hs hc
    obtain ⟨x1, x2, x3⟩ := kid_ok hs hc (x := x) (by simp)
    exact docS (rstmt_32 0 0 bz [] x p ((ix x1 x2).1 rfl) (rt_10 hx) x3 bz_600)
  | iff x y z p hx hy hz ix iy iz =>
    intro hs hc
    obtain ⟨x1, x2, x3⟩ := kid_ok hs hc (x := x) (by simp)
    obtain ⟨y1, y2, y3⟩ := kid_ok hs hc (x := y) (by simp)
    obtain ⟨z1, z2, z3⟩ := kid_ok hs hc (x := z) (by simp)
    obtain ⟨yb, yl⟩ := block_ok y1 y2
    obtain ⟨zb, zl⟩ := block_ok z1 z2
    exact docS (rstmt_28 0 0 bz [] x y z p ((ix x1 x2).1 rfl) x3 ((iy y1 y2).2.2 rfl) yb yl ((iz z1 z2).2.2 rfl) zb zl (rt_10 hx))
  | whil x y p hx hy ix iy =>
    intro hs hc
    obtain ⟨x1, x2, x3⟩ := kid_ok hs hc (x := x) (by simp)
    obtain ⟨y1, y2, y3⟩ := kid_ok hs hc (x := y) (by simp)
    obtain ⟨yb, yl⟩ := block_ok y1 y2
    exact docS (rstmt_30 0 0 bz [] x y p ((ix x1 x2).1 rfl) x3 ((iy y1 y2).2.2 rfl) yb yl (rt_10 hx) bz_600)
  | block ks p hc0 hk ik =>
    intro hs hc
    exact ⟨fun h => (by cases h), fun h => (by cases h), fun _ x hx => (ik x hx (kid_ok hs hc hx).1 (kid_ok hs hc hx).2.1).2.1 rfl⟩

set_option maxHeartbeats 3200000 in
theorem refprint_calls (x : Nd) (B : Nat) (w : World) (nv kv : Value) (hB : B ≤ w.heap.size) (hN : Hid (NdIn B w x nv kv)) (hs : smallN x = true) (hc : countN x ≤ 1000) :
    Calls Tryd.prog 16 #[.agg #[.int .i64 x.kind, .int .i64 x.op, .int .i64 x.num, .string x.str, nv, kv, .int .i64 x.pl]] w fun e w' =>
      e = .returned (.tuple #[.string ⟨(printN x).1.toArray⟩, .int .i64 (printN x).2]) ∧ Below w.heap.size w w' := by
  obtain ⟨a1, q1, a2, q2, rfl, rfl⟩ := ndIn_shape hN.out
  have hal := box1_below w (.cells #[.int .i64 x.kind, .int .i64 x.op, .int .i64 x.num, .string x.str, .slice a1 x.names.length q1, .slice a2 x.kids.length q2, .int .i64 x.pl] 25)
  have AL := hid hal
  have X := hid (box_new w x.kind x.op x.num x.str (.slice a1 x.names.length q1) (.slice a2 x.kids.length q2) x.pl)
  have N0 := hid (ndIn_on (hal.mono hB) _ _ _ hN.out)
  have HS := hid hs
  have HR := hid (fun (h : checkN x = 0) => show rightN x 3 = true by
    unfold checkN at h
    split at h
    · cases h
    split at h
    · assumption
    · cases h)
  have hpl := print_len x hs hc
  clear hal hN hs
  go_enter Tryd.func16, Tryd.ntmps16
  go_wp2_with fail
  refine (refcheck_tree x B _ _ _ (by simp; omega) N0 HS.out (by omega)).mono ?_
  rintro e w1 ⟨rfl, b1⟩
  have B1 := hid (below_in AL.out (by simp) b1)
  have X1 := hid (box_on X.out b1)
  have N1 := hid (ndIn_on (b1.mono (by simp; omega)) _ _ _ N0.out)
  obtain ⟨c0, c1, c2, c3, c4, c5, c6⟩ := box_cells X1.out
  clear b1 AL X N0
  by_cases hck : checkN x = 0
  case neg =>
    have HP := hid (show printN x = ([], checkN x) by unfold printN; rw [if_pos hck])
    have e0 : (checkN x == 0) = false := beq_eq_false_iff_ne.2 hck
    clear hck HR
    generalize checkN x = ck at *
    go_wp2_with fail
    go_ret2
    exact ⟨by rw [HP.out]; rfl, B1.out⟩
  have hrt := of_right x 3 (by simp) (HR.out hck)
  have hdoc := (rdoc hrt HS.out hc).2.2 rfl
  have hbk := block_ok HS.out hc
  have HP := hid (show printN x = if 2000 < (printT x).length then ([], 3) else (printT x, 0) by unfold printN; rw [if_neg (by omega)])
  have HPT := hid (show printT x = programT (x.kids.map textN) from rfl)
  rw [hck]
  obtain ⟨k, o, n, s, ns, ks, p⟩ := x
  have D := hid hdoc
  clear hrt hdoc hck HR
  simp only [Nd.kind, Nd.op, Nd.num, Nd.str, Nd.pl, Nd.names, Nd.kids] at *
  have hsz := B1.out.size
  go_wp2_with fail
  refine (rtext_calls k o n s ns ks p D.out hbk.1 hbk.2 B _ _ _ (by omega) N1).mono ?_
  rintro e w2 ⟨rfl, b2⟩
  have B2 := hid (below_in B1.out (Nat.le_refl _) b2)
  clear b2 B1 X1 N1 c0 c1 c2 c3 c4 c5 c6
  rw [← HPT.out]
  clear HPT
  generalize printT (.mk k o n s ns ks p) = pt at *
  by_cases h2 : 2000 < pt.length
  · have H2 := hid (HP.out.trans (if_pos h2))
    clear HP
    go_wp2_with fail
    go_ret2
    exact ⟨by rw [H2.out]; rfl, B2.out⟩
  · have H2 := hid (HP.out.trans (if_neg h2))
    clear HP
    go_wp2_with fail
    go_ret2
    exact ⟨by rw [H2.out]; rfl, B2.out⟩

end Go.Proofs.YtlnllpehifkjhaaDoor
