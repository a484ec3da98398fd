/- A node held against its bare copy; whether a node is right as a block. -/
import Derived.Test.YtgdbaceehpcgbaaDoorJoint4
import Derived.Test.YtgdbaceehpcgbaaDoorTreeAre
import Derived.Test.YtgdbaceehpcgbaaDoorNdRight2
import Derived.Deep.RegionHeld3
import Derived.Deep.RegionWith
namespace Go.Proofs.YtgdbaceehpcgbaaDoor
open Go.RowKit

theorem bare2_calls (B : Nat) (w : World) (k o n : Int) (s : ByteArray) (ns : List ByteArray) (a1 : Option Addr) (q1 : Nat) (a2 : Option Addr) (c2 q2 : Nat) (p : Int) (hB : B ≤ w.heap.size) (hS : Hid (StrsIn B (.slice a1 ns.length q1) ns w)) :
    Calls Tryd.prog 80 #[.agg #[.int .i64 k, .int .i64 o, .int .i64 n, .string s, .slice a1 ns.length q1, .slice a2 c2 q2, .int .i64 p]] w fun e w' =>
      ∃ x1 y1 z1 x2 z2, e = .returned (.agg #[.int .i64 k, .int .i64 (cond (hasOpK k) o 0), .int .i64 (cond (hasNumK k) n 0), .string (cond (hasStrK k) s ⟨#[]⟩), .slice x1 y1 z1, .slice x2 (cond (leafK k) 0 c2) z2, .int .i64 0]) ∧
        Hid (StrsIn B (.slice x1 y1 z1) (cond (hasNsK k) ns []) w') ∧ Below w.heap.size w w' := by
  refine (bare_calls w k o n s a1 ns.length q1 a2 c2 q2 p).mono ?_
  rintro e w1 ⟨rfl, b1⟩
  have h1 : ∃ x1 y1 z1, cond (hasNsK k) (.slice a1 ns.length q1) (.slice none 0 0) = Value.slice x1 y1 z1 ∧ StrsIn B (.slice x1 y1 z1) (cond (hasNsK k) ns []) w1 := by
    cases hasNsK k
    · exact ⟨none, 0, 0, rfl, .inl ⟨none, 0, rfl, rfl⟩⟩
    · exact ⟨a1, ns.length, q1, rfl, strsIn_on hS.out (b1.mono hB)⟩
  have h2 : ∃ x2 z2, cond (leafK k) (.slice none 0 0) (.slice a2 c2 q2) = Value.slice x2 (cond (leafK k) 0 c2) z2 := by
    cases leafK k
    · exact ⟨a2, q2, rfl⟩
    · exact ⟨none, 0, rfl⟩
  obtain ⟨x1, y1, z1, e1, h3⟩ := h1
  obtain ⟨x2, z2, e2⟩ := h2
  exact ⟨x1, y1, z1, x2, z2, by rw [e1, e2], h3, b1⟩

/-- alike, asked of a node and its bare copy -/
theorem like_calls (B : Nat) (w : World) (k o n : Int) (s : ByteArray) (ns : List ByteArray) (a1 : Option Addr) (q1 : Nat) (a2 : Option Addr) (c2 q2 : Nat) (p : Int) (x1 : Option Addr) (y1 z1 : Nat) (x2 : Option Addr) (z2 : Nat) (hB : B ≤ w.heap.size)
    (hS : StrsIn B (.slice a1 ns.length q1) ns w) (hS' : StrsIn B (.slice x1 y1 z1) (cond (hasNsK k) ns []) w) (hc : ns.length ≤ 1000000) :
    Calls Tryd.prog 79 #[.agg #[.int .i64 k, .int .i64 o, .int .i64 n, .string s, .slice a1 ns.length q1, .slice a2 c2 q2, .int .i64 p],
        .agg #[.int .i64 k, .int .i64 (cond (hasOpK k) o 0), .int .i64 (cond (hasNumK k) n 0), .string (cond (hasStrK k) s ⟨#[]⟩), .slice x1 y1 z1, .slice x2 (cond (leafK k) 0 c2) z2, .int .i64 0]] w fun e w' =>
      e = .returned (.bool (bareB k o n s ns c2)) ∧ Below w.heap.size w w' :=
  alike_calls B w k o n s ns _ _ _ _ p k _ _ _ _ _ _ _ _ 0 hB (hid hS) (hid hS') hc

theorem held7_on {w a c : World} {B g : Nat} {k o n : Int} {s : ByteArray} {nv kv : Value} {p : Int} {ns : List ByteArray} {ks : List Nd}
    (h : (Below w.heap.size w a ∧ Box g k o n s nv kv p a ∧ Ok B a ∧ StrsIn B nv ns a ∧ KidsIn B a kv ks) ∧ a.cell? ⟨g, 0, none⟩ = some (.int .i64 k) ∧ a.cell? ⟨g, 1, none⟩ = some (.int .i64 o) ∧ a.cell? ⟨g, 2, none⟩ = some (.int .i64 n) ∧ a.cell? ⟨g, 3, none⟩ = some (.string s) ∧
      a.cell? ⟨g, 4, none⟩ = some nv ∧ a.cell? ⟨g, 5, none⟩ = some kv ∧ a.cell? ⟨g, 6, none⟩ = some (.int .i64 p)) (q : Below a.heap.size a c) :
    (Below w.heap.size w c ∧ Box g k o n s nv kv p c ∧ Ok B c ∧ StrsIn B nv ns c ∧ KidsIn B c kv ks) ∧ c.cell? ⟨g, 0, none⟩ = some (.int .i64 k) ∧ c.cell? ⟨g, 1, none⟩ = some (.int .i64 o) ∧ c.cell? ⟨g, 2, none⟩ = some (.int .i64 n) ∧ c.cell? ⟨g, 3, none⟩ = some (.string s) ∧
      c.cell? ⟨g, 4, none⟩ = some nv ∧ c.cell? ⟨g, 5, none⟩ = some kv ∧ c.cell? ⟨g, 6, none⟩ = some (.int .i64 p) := by
  obtain ⟨⟨h1, h2, h3, h4, h5⟩, _⟩ := h
  have q' := q.mono h3.1
  have hx := box_on h2 q
  exact ⟨⟨below_in h1 (Nat.le_refl _) q, hx, ok_on h3 q', strsIn_on h4 q', kidsIn_on q' h5⟩, box_cells hx⟩
theorem held7_new {w : World} {B : Nat} {k o n : Int} {s : ByteArray} {nv kv : Value} {p : Int} {ns : List ByteArray} {ks : List Nd} (hO : Ok B w) (hS : StrsIn B nv ns w) (hK : KidsIn B w kv ks) :
    (fun a : World => (Below w.heap.size w a ∧ Box w.heap.size k o n s nv kv p a ∧ Ok B a ∧ StrsIn B nv ns a ∧ KidsIn B a kv ks) ∧ a.cell? ⟨w.heap.size, 0, none⟩ = some (.int .i64 k) ∧ a.cell? ⟨w.heap.size, 1, none⟩ = some (.int .i64 o) ∧ a.cell? ⟨w.heap.size, 2, none⟩ = some (.int .i64 n) ∧ a.cell? ⟨w.heap.size, 3, none⟩ = some (.string s) ∧
      a.cell? ⟨w.heap.size, 4, none⟩ = some nv ∧ a.cell? ⟨w.heap.size, 5, none⟩ = some kv ∧ a.cell? ⟨w.heap.size, 6, none⟩ = some (.int .i64 p)) (w.alloc (.cells #[.int .i64 k, .int .i64 o, .int .i64 n, .string s, nv, kv, .int .i64 p] 47)) := by
  have hal := (Below.refl w.heap.size w).alloc (Nat.le_refl _) (.cells #[.int .i64 k, .int .i64 o, .int .i64 n, .string s, nv, kv, .int .i64 p] 47)
  have q' := hal.mono hO.1
  have hx := box_new w k o n s nv kv p
  exact ⟨⟨hal, hx, ok_on hO q', strsIn_on hS q', kidsIn_on q' hK⟩, box_cells hx⟩

theorem h7_size {w a : World} {B g : Nat} {k o n : Int} {s : ByteArray} {nv kv : Value} {p : Int} {ns : List ByteArray} {ks : List Nd} {R : Prop} (h : (Below w.heap.size w a ∧ Box g k o n s nv kv p a ∧ Ok B a ∧ StrsIn B nv ns a ∧ KidsIn B a kv ks) ∧ R) : B ≤ a.heap.size := h.1.2.2.1.1
theorem h7_ok {w a : World} {B g : Nat} {k o n : Int} {s : ByteArray} {nv kv : Value} {p : Int} {ns : List ByteArray} {ks : List Nd} {R : Prop} (h : (Below w.heap.size w a ∧ Box g k o n s nv kv p a ∧ Ok B a ∧ StrsIn B nv ns a ∧ KidsIn B a kv ks) ∧ R) : Hid (Ok B a) := h.1.2.2.1
theorem h7_strs {w a : World} {B g : Nat} {k o n : Int} {s : ByteArray} {nv kv : Value} {p : Int} {ns : List ByteArray} {ks : List Nd} {R : Prop} (h : (Below w.heap.size w a ∧ Box g k o n s nv kv p a ∧ Ok B a ∧ StrsIn B nv ns a ∧ KidsIn B a kv ks) ∧ R) : StrsIn B nv ns a := h.1.2.2.2.1
theorem h7_kids {w a : World} {B g : Nat} {k o n : Int} {s : ByteArray} {nv kv : Value} {p : Int} {ns : List ByteArray} {ks : List Nd} {R : Prop} (h : (Below w.heap.size w a ∧ Box g k o n s nv kv p a ∧ Ok B a ∧ StrsIn B nv ns a ∧ KidsIn B a kv ks) ∧ R) : Hid (KidsIn B a kv ks) := h.1.2.2.2.2

set_option maxHeartbeats 3200000 in
theorem block_step (k o n : Int) (s : ByteArray) (ns : List ByteArray) (ks : List Nd) (p : Int) (ih : ∀ x ∈ ks, StmtAt x) : BlockAt (.mk k o n s ns ks p) := by
  intro B w nv kv hO hN hsm hc
  obtain ⟨_, hns, _, hsk⟩ := small_mk hsm
  simp only [countN] at hc
  obtain ⟨hs1, hk1⟩ := ndIn_mk.1 hN.out
  obtain ⟨a1, q1, a2, q2, rfl, rfl⟩ := ndIn_shape hN.out
  simp only [Nd.kind, Nd.op, Nd.num, Nd.str, Nd.pl, Nd.names, Nd.kids] at *
  have NEW := hid (held7_new (k := k) (o := o) (n := n) (s := s) (p := p) hO.out hs1 hk1)
  have IH := hid ih
  clear hO hN hs1 hk1 hsm ih
  by_cases hk : k = 29
  · subst hk
    have HR := hid (right29 o n s ns ks p)
    have SK := hid hsk
    clear hsk
    cases hbb : bareB 29 o n s ns ks.length with
    | false =>
      have HB := hid hbb
      have H := hid (show rightN (.mk 29 o n s ns ks p) 3 = false by rw [HR.out, hbb]; rfl)
      have NEW2 := hid (held7_on NEW.out (Below.refl _ _).drew)
      clear hbb HR NEW
      go_enter Tryd.func65, Tryd.ntmps65
      go_wp2_with fail
      first | go_region_with (first
          | (go_at_call 80; refine (bare2_calls B _ 29 o n s ns a1 q1 a2 ks.length q2 p (h7_size NEW2.out) (hid (h7_strs NEW2.out))).mono ?_; rintro e wx ⟨x1, y1, z1, x2, z2, rfl, hst, bb⟩; obtain ⟨⟨zb, zx, zo, zs, zk⟩, f0, f1, f2, f3, f4, f5, f6⟩ := held7_on NEW2.out bb)
          | (go_at_call 79; refine (like_calls B _ 29 o n s ns a1 q1 a2 ks.length q2 p _ _ _ _ _ zo.1 zs hst.out (by omega)).mono ?_; rintro e wy ⟨he, bc⟩; rw [HB.out] at he; subst he)) | fail
      all_goals
        have Z := hid (below_in zb (Nat.le_refl _) bc)
        clear zb zx zo zs zk
        go_wp2_with fail
        go_ret
        exact ⟨by rw [H.out]; rfl, Z.out⟩
    | true =>
      have HB := hid hbb
      have H := hid (show rightN (.mk 29 o n s ns ks p) 3 = (decide (ks.length ≤ 40) && !ks.any fun x => !rightN x 2) by rw [HR.out, hbb]; rfl)
      clear hbb HR
      go_enter Tryd.func65, Tryd.ntmps65
      go_wp2_with fail
      go_region_held3 (fun a => (Below w.heap.size w a ∧ Box w.heap.size 29 o n s (.slice a1 ns.length q1) (.slice a2 ks.length q2) p a ∧ Ok B a ∧ StrsIn B (.slice a1 ns.length q1) ns a ∧ KidsIn B a (.slice a2 ks.length q2) ks) ∧ a.cell? ⟨w.heap.size, 0, none⟩ = some (.int .i64 29) ∧ a.cell? ⟨w.heap.size, 1, none⟩ = some (.int .i64 o) ∧ a.cell? ⟨w.heap.size, 2, none⟩ = some (.int .i64 n) ∧ a.cell? ⟨w.heap.size, 3, none⟩ = some (.string s) ∧
          a.cell? ⟨w.heap.size, 4, none⟩ = some (.slice a1 ns.length q1) ∧ a.cell? ⟨w.heap.size, 5, none⟩ = some (.slice a2 ks.length q2) ∧ a.cell? ⟨w.heap.size, 6, none⟩ = some (.int .i64 p))
        (first | exact held7_on (by assumption) bb | exact held7_on NEW.out (Below.refl _ _).drew | exact held7_on (by assumption) (Below.refl _ _).drew)
        (first
          | (go_at_call 80; refine (bare2_calls B _ 29 o n s ns a1 q1 a2 ks.length q2 p (h7_size (by assumption)) (hid (h7_strs (by assumption)))).mono ?_; rintro e wx ⟨x1, y1, z1, x2, z2, rfl, hst, bb⟩)
          | (go_at_call 79; refine (like_calls B _ 29 o n s ns a1 q1 a2 ks.length q2 p _ _ _ _ _ (h7_size (by assumption)) (h7_strs (by assumption)) hst.out (by omega)).mono ?_; rintro e wx ⟨he, bb⟩; rw [HB.out] at he; subst he)
          | (go_at_call 81; refine (arestmts_calls B _ _ ks (h7_ok (by assumption)) (h7_kids (by assumption)) SK.out (by omega) IH.out).mono ?_; rintro e wx ⟨he, bb⟩; rw [← H.out] at he; subst he))
      rename_i hz
      have Z := hid hz.1.1
      clear hz
      go_wp2_with fail
      go_ret
      exact ⟨rfl, Z.out⟩
  · have ek : (k == 29) = false := beq_eq_false_iff_ne.2 hk
    have H := hid (show rightN (.mk k o n s ns ks p) 3 = false by
      rw [rightN_mk]
      have : (isK k == 3) = false := isK_not3 hk
      rw [this]; rfl)
    have c0 : (w.alloc (.cells #[.int .i64 k, .int .i64 o, .int .i64 n, .string s, .slice a1 ns.length q1, .slice a2 ks.length q2, .int .i64 p] 47)).drew.cell? ⟨w.heap.size, 0, none⟩ = some (.int .i64 k) := by simp
    clear hk
    go_enter Tryd.func65, Tryd.ntmps65
    go_wp2_with fail
    go_region
    all_goals
      go_wp2_with fail
      go_ret
      exact ⟨by rw [H.out]; rfl, NEW.out.1.1.drew⟩

end Go.Proofs.YtgdbaceehpcgbaaDoor
