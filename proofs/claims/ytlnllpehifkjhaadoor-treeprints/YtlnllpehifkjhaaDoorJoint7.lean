/- How tight a sign is; a node that is one word. The writer: what it holds, and what it writes at once. -/
import Derived.Test.YtlnllpehifkjhaaDoorJoint3
import Derived.Test.YtlnllpehifkjhaaDoorJoint5
import Derived.Test.YtlnllpehifkjhaaDoorJoint6
import Derived.Test.YtlnllpehifkjhaaDoorBld
import Derived.Test.YtlnllpehifkjhaaDoorJoint4
namespace Go.Proofs.YtlnllpehifkjhaaDoor
open Go.RowKit

def signRankT (o : Int) : Int := if o = 10 ∨ o = 11 then 3 else if 6 ≤ o ∧ o ≤ 9 then 4 else if o = 1 ∨ o = 2 then 5 else if 3 ≤ o ∧ o ≤ 5 then 6 else 9

theorem signrank_calls (o : Int) (w : World) :
    Calls Tryd.prog 98 #[.int .i64 o] w fun e w' => e = .returned (.int .i64 (signRankT o)) ∧ w = w' := by
  by_cases h : 1 ≤ o ∧ o ≤ 11
  · obtain rfl | rfl | rfl | rfl | rfl | rfl | rfl | rfl | rfl | rfl | rfl : o = 1 ∨ o = 2 ∨ o = 3 ∨ o = 4 ∨ o = 5 ∨ o = 6 ∨ o = 7 ∨ o = 8 ∨ o = 9 ∨ o = 10 ∨ o = 11 := by omega
    all_goals
      clear h
      go_enter Tryd.func98, Tryd.ntmps98
      go_wp2_with fail
      go_ret
      exact ⟨rfl, rfl⟩
  · have H := hid (show signRankT o = 9 by unfold signRankT; rw [if_neg (by omega), if_neg (by omega), if_neg (by omega), if_neg (by omega)])
    have e1 : (o == 1) = false := beq_eq_false_iff_ne.2 (by omega)
    have e2 : (o == 2) = false := beq_eq_false_iff_ne.2 (by omega)
    have e3 : (o == 3) = false := beq_eq_false_iff_ne.2 (by omega)
    have e4 : (o == 4) = false := beq_eq_false_iff_ne.2 (by omega)
    have e5 : (o == 5) = false := beq_eq_false_iff_ne.2 (by omega)
    have e6 : (o == 6) = false := beq_eq_false_iff_ne.2 (by omega)
    have e7 : (o == 7) = false := beq_eq_false_iff_ne.2 (by omega)
    have e8 : (o == 8) = false := beq_eq_false_iff_ne.2 (by omega)
    have e9 : (o == 9) = false := beq_eq_false_iff_ne.2 (by omega)
    have e10 : (o == 10) = false := beq_eq_false_iff_ne.2 (by omega)
    have e11 : (o == 11) = false := beq_eq_false_iff_ne.2 (by omega)
    clear h
    go_enter Tryd.func98, Tryd.ntmps98
    go_wp2_with fail
    go_ret
    exact ⟨by rw [H.out]; rfl, rfl⟩

theorem rank_calls (k o n : Int) (s : ByteArray) (a1 : Option Addr) (c1 q1 : Nat) (a2 : Option Addr) (c2 q2 : Nat) (p : Int) (w : World) :
    Calls Tryd.prog 93 #[.agg #[.int .i64 k, .int .i64 o, .int .i64 n, .string s, .slice a1 c1 q1, .slice a2 c2 q2, .int .i64 p]] w fun e w' =>
      e = .returned (.int .i64 (rankT k o)) ∧ Below w.heap.size w w' := by
  have AL := hid (box1_below w (.cells #[.int .i64 k, .int .i64 o, .int .i64 n, .string s, .slice a1 c1 q1, .slice a2 c2 q2, .int .i64 p] 25))
  by_cases h : 9 ≤ k ∧ k ≤ 16
  · obtain rfl | rfl | rfl | rfl | rfl | rfl | rfl | rfl : k = 10 ∨ k = 9 ∨ k = 11 ∨ k = 12 ∨ k = 13 ∨ k = 14 ∨ k = 15 ∨ k = 16 := by omega
    · have H := hid (show rankT 10 o = signRankT o by unfold rankT signRankT; rfl)
      go_enter Tryd.func93, Tryd.ntmps93
      go_wp2_with fail
      refine (signrank_calls o _).mono ?_
      rintro e w1 ⟨rfl, rfl⟩
      go_wp2_with fail
      go_ret
      exact ⟨by rw [H.out]; rfl, AL.out⟩
    all_goals
      clear h
      go_enter Tryd.func93, Tryd.ntmps93
      go_wp2_with fail
      go_ret
      exact ⟨rfl, AL.out⟩
  · have e9 : (k == 9) = false := beq_eq_false_iff_ne.2 (by omega)
    have e10 : (k == 10) = false := beq_eq_false_iff_ne.2 (by omega)
    have e11 : (k == 11) = false := beq_eq_false_iff_ne.2 (by omega)
    have e12 : (k == 12) = false := beq_eq_false_iff_ne.2 (by omega)
    have e13 : (k == 13) = false := beq_eq_false_iff_ne.2 (by omega)
    have e14 : (k == 14) = false := beq_eq_false_iff_ne.2 (by omega)
    have e15 : (k == 15) = false := beq_eq_false_iff_ne.2 (by omega)
    have e16 : (k == 16) = false := beq_eq_false_iff_ne.2 (by omega)
    have H := hid (show rankT k o = if 1 ≤ k ∧ k ≤ 20 then 9 else 0 by unfold rankT; rw [if_neg (by omega), if_neg (by omega), if_neg (by omega), if_neg (by omega), if_neg (by omega)])
    by_cases h1 : 1 ≤ k
    · by_cases h2 : k ≤ 20
      · rw [if_pos ⟨h1, h2⟩] at H
        clear h
        go_enter Tryd.func93, Tryd.ntmps93
        go_wp2_with fail
        go_ret
        exact ⟨by rw [H.out]; rfl, AL.out⟩
      · rw [if_neg (by omega)] at H
        have d2 : decide (k ≤ 20) = false := decide_eq_false h2
        clear h
        go_enter Tryd.func93, Tryd.ntmps93
        go_wp2_with fail
        go_ret
        exact ⟨by rw [H.out]; rfl, AL.out⟩
    · rw [if_neg (by omega)] at H
      have d1 : decide (1 ≤ k) = false := decide_eq_false h1
      clear h
      go_enter Tryd.func93, Tryd.ntmps93
      go_wp2_with fail
      go_ret
      exact ⟨by rw [H.out]; rfl, AL.out⟩

theorem word_calls (k o n : Int) (s : ByteArray) (a1 : Option Addr) (c1 q1 : Nat) (a2 : Option Addr) (c2 q2 : Nat) (p : Int) (hn1 : -9223372036854775808 ≤ n) (hn2 : n ≤ 9223372036854775807) (hs : s.size ≤ 1000000) (w : World) :
    Calls Tryd.prog 86 #[.agg #[.int .i64 k, .int .i64 o, .int .i64 n, .string s, .slice a1 c1 q1, .slice a2 c2 q2, .int .i64 p]] w fun e w' =>
      e = .returned (.string ⟨(wordT k n s).toArray⟩) ∧ Below w.heap.size w w' := by
  have AL := hid (box1_below w (.cells #[.int .i64 k, .int .i64 o, .int .i64 n, .string s, .slice a1 c1 q1, .slice a2 c2 q2, .int .i64 p] 25))
  cases h1 : (k == 1) with
  | true =>
    obtain rfl := beq_iff_eq.1 h1
    clear h1
    go_enter Tryd.func86, Tryd.ntmps86
    go_wp2_with fail
    go_ret
    exact ⟨rfl, AL.out⟩
  | false =>
  cases h6 : (k == 6) with
  | true =>
    obtain rfl := beq_iff_eq.1 h6
    clear h6 h1
    go_enter Tryd.func86, Tryd.ntmps86
    go_wp2_with fail
    go_ret
    exact ⟨rfl, AL.out⟩
  | false =>
  cases h2 : (k == 2) with
  | true =>
    obtain rfl := beq_iff_eq.1 h2
    clear h2 h1 h6
    by_cases h0 : n = 0
    · subst h0
      go_enter Tryd.func86, Tryd.ntmps86
      go_wp2_with fail
      go_ret
      exact ⟨rfl, AL.out⟩
    · have e0 : (n == 0) = false := beq_eq_false_iff_ne.2 h0
      have H := hid (show wordT 2 n s = [116, 114, 117, 101] by unfold wordT; rw [if_neg (by decide), if_neg (by decide), if_pos rfl, if_neg h0])
      clear h0
      go_enter Tryd.func86, Tryd.ntmps86
      go_wp2_with fail
      go_ret
      exact ⟨by rw [H.out]; rfl, AL.out⟩
  | false =>
  cases h3 : (k == 3) with
  | true =>
    obtain rfl := beq_iff_eq.1 h3
    clear h2 h1 h6 h3
    have H := hid (show wordT 3 n s = digs n by unfold wordT; rw [if_neg (by decide), if_neg (by decide), if_neg (by decide), if_pos rfl])
    go_enter Tryd.func86, Tryd.ntmps86
    go_wp2_with fail
    refine (digits_calls n hn1 hn2 _).mono ?_
    rintro e w1 ⟨rfl, b1⟩
    go_wp2_with fail
    go_ret
    exact ⟨by rw [H.out]; rfl, below_in AL.out (by simp) b1⟩
  | false =>
  cases h4 : (k == 4) with
  | true =>
    obtain rfl := beq_iff_eq.1 h4
    clear h2 h1 h6 h3 h4
    have H := hid (show wordT 4 n s = quoted s.data.toList by unfold wordT; rw [if_neg (by decide), if_neg (by decide), if_neg (by decide), if_neg (by decide), if_pos rfl])
    go_enter Tryd.func86, Tryd.ntmps86
    go_wp2_with fail
    refine (quote_calls s hs _).mono ?_
    rintro e w1 ⟨rfl, b1⟩
    go_wp2_with fail
    go_ret
    exact ⟨by rw [H.out]; rfl, below_in AL.out (by simp) b1⟩
  | false =>
    have H := hid (show (⟨(wordT k n s).toArray⟩ : ByteArray) = s by
      unfold wordT; rw [if_neg (beq_eq_false_iff_ne.1 h1), if_neg (beq_eq_false_iff_ne.1 h6), if_neg (beq_eq_false_iff_ne.1 h2), if_neg (beq_eq_false_iff_ne.1 h3), if_neg (beq_eq_false_iff_ne.1 h4)])
    go_enter Tryd.func86, Tryd.ntmps86
    go_wp2_with fail
    go_ret
    exact ⟨by rw [H.out]; rfl, AL.out⟩

end Go.Proofs.YtlnllpehifkjhaaDoor

namespace Go.Proofs.YtlnllpehifkjhaaDoor
open Go.RowKit

theorem fits_writer : Fits 43 2 := ⟨by kernel_rfl, by decide⟩
/-- a writer at block b that has written l -/
def Wr (B b : Nat) (l : List UInt8) (w : World) : Prop := Has 43 [] B b l w ∧ B ≤ w.heap.size
theorem wr_near {B b : Nat} {l l' : List UInt8} {a c : World} (h : Wr B b l a) (h' : Has 43 [] B b l' c) (q : Near B b a c) : Wr B b l' c := ⟨h', Nat.le_trans h.2 q.below.size⟩
theorem wr_lt {B b : Nat} {l : List UInt8} {w : World} (h : Wr B b l w) : b < w.heap.size := h.1.lt
theorem wr_low {B b : Nat} {l : List UInt8} {w : World} (h : Wr B b l w) : B ≤ b := by obtain ⟨⟨p, v, h⟩, _⟩ := h; exact h.low
theorem wr_drew {B b : Nat} {l : List UInt8} {w : World} (h : Wr B b l w) : Wr B b l w.drew := ⟨h.1.drew, h.2⟩
/-- new blocks, and whatever leaves all old ones alone -/
theorem wr_below {B b : Nat} {l : List UInt8} {a c : World} (h : Wr B b l a) (q : Below a.heap.size a c) : Wr B b l c := by
  obtain ⟨⟨p, v, h1⟩, h2⟩ := h
  have hb : b < a.heap.size := wr_lt ⟨⟨p, v, h1⟩, h2⟩
  refine ⟨⟨p, v, h1.low, h1.seen, (q.block b hb).trans h1.blk, ?_, h1.ne, h1.nil⟩, Nat.le_trans h2 q.size⟩
  refine ⟨h1.own.1, ?_⟩
  rcases h1.own.2 with h3 | ⟨g, cap, cur, hv, hg, hh, r⟩
  · exact .inl h3
  · have hgl : g < a.heap.size := lt_of_block hh
    exact .inr ⟨g, cap, cur, hv, hg, (q.block g hgl).trans hh, r⟩
theorem wr_shape {B b : Nat} {l : List UInt8} {w : World} (h : Wr B b l w) : ∃ ao cap, w.cell? ⟨b, 1, none⟩ = some (.slice ao l.length cap) := by
  obtain ⟨⟨p, v, h1⟩, _⟩ := h
  have c1 : w.cell? ⟨b, 1, none⟩ = some v := by rw [Lib.cell_of_heap h1.blk]; rfl
  rcases h1.own.2 with ⟨hv, hz⟩ | ⟨g, cap, cur, hv, _⟩
  · exact ⟨none, 0, by rw [c1, hv, hz]⟩
  · exact ⟨_, cap, by rw [c1, hv]⟩

theorem full_calls {B b : Nat} {l : List UInt8} {w : World} (h : Hid (Wr B b l w)) (hl : l.length ≤ 1000000000) :
    Calls Tryd.prog 24 #[.pointer (some ⟨b, 0, none⟩)] w fun e w' => e = .returned (.bool (decide (2000 < l.length))) ∧ w = w' := by
  obtain ⟨ao, cap, c1⟩ := wr_shape h.out
  clear h
  by_cases h2 : 2000 < l.length
  · have H := hid (show decide (2000 < l.length) = true from decide_eq_true h2)
    have d : decide ((2000 : Int) < (l.length : Int)) = true := decide_eq_true (by omega)
    go_enter Tryd.func24, Tryd.ntmps24
    go_wp2
    go_ret
    exact ⟨by rw [H.out]; rfl, rfl⟩
  · have H := hid (show decide (2000 < l.length) = false from decide_eq_false h2)
    have d : decide ((2000 : Int) < (l.length : Int)) = false := decide_eq_false (by omega)
    go_enter Tryd.func24, Tryd.ntmps24
    go_wp2
    go_ret
    exact ⟨by rw [H.out]; rfl, rfl⟩

/-- what a call of the writer leaves -/
def Done (B b : Nat) (l t : List UInt8) (w : World) (e : Ending) (w' : World) : Prop := e = .returned (.tuple #[]) ∧ ∃ l', Wr B b l' w' ∧ Wrote l t l' ∧ Near B b w w'

theorem wbyte_calls {B b : Nat} {l : List UInt8} {w : World} (c : UInt8) (n : Int) (hn : n = (c.toNat : Int)) (h : Hid (Wr B b l w)) (hl : l.length ≤ 1000000000) :
    Calls Tryd.prog 35 #[.pointer (some ⟨b, 0, none⟩), .int .u8 n] w fun e w' => e = .returned .nilIface ∧ Wr B b (l ++ [c]) w' ∧ Near B b w w' :=
  (writeByte_near _ _ B b l c n hn w h.out.1 fits_writer (by omega) h.out.2).mono fun _ _ ⟨h1, h2, h3⟩ => ⟨h1, wr_near h.out h2 h3, h3⟩
theorem wstr_calls {B b : Nat} {l : List UInt8} {w : World} (s : ByteArray) (hs0 : l ++ s.data.toList ≠ []) (h : Hid (Wr B b l w)) (hl : l.length ≤ 1000000000) (hs : s.size ≤ 1000000000) :
    Calls Tryd.prog 49 #[.pointer (some ⟨b, 0, none⟩), .string s] w fun e w' => e = .returned (.tuple #[.int .i64 s.size, .nilIface]) ∧ Wr B b (l ++ s.data.toList) w' ∧ Near B b w w' :=
  (writeString_near _ _ B b l s hs0 w h.out.1 fits_writer (by omega) h.out.2).mono fun _ _ ⟨h1, h2, h3⟩ => ⟨h1, wr_near h.out h2 h3, h3⟩

theorem box_near {B b g : Nat} {k o n : Int} {s : ByteArray} {nv kv : Value} {p : Int} {a c : World} (h : Box g k o n s nv kv p a) (hg : g ≠ b) (q : Near B b a c) : Box g k o n s nv kv p c := by
  refine (q.rest g (box_lt h) hg ?_).trans h
  intro cur fz e
  rw [h] at e
  injection e with e
  injection e with _ e _
  exact absurd e (by decide)

/-- a node's box beside the writer, and where its kids are -/
def Core (B b : Nat) (w0 : World) (g : Nat) (k o n : Int) (s : ByteArray) (nv kv : Value) (p : Int) (ns : List ByteArray) (ks : List Nd) (a : World) : Prop :=
  Near B b w0 a ∧ Box g k o n s nv kv p a ∧ g ≠ b ∧ Ok B a ∧ StrsIn B nv ns a ∧ KidsIn B a kv ks
theorem core_near {B b g : Nat} {w0 a c : World} {k o n : Int} {s : ByteArray} {nv kv : Value} {p : Int} {ns : List ByteArray} {ks : List Nd} (h : Core B b w0 g k o n s nv kv p ns ks a) (q : Near B b a c) : Core B b w0 g k o n s nv kv p ns ks c := by
  obtain ⟨h1, h2, h3, h4, h5, h6⟩ := h
  exact ⟨h1.trans q, box_near h2 h3 q, h3, ok_on h4 q.below, strsIn_on h5 q.below, kidsIn_on q.below h6⟩
theorem near_drew {B b : Nat} {a c : World} (h : Near B b a c) : Near B b a c.drew := ⟨h.below.drew, h.rest⟩
theorem core_new {B b : Nat} {l : List UInt8} {w : World} {k o n : Int} {s : ByteArray} {nv kv : Value} {p : Int} {ns : List ByteArray} {ks : List Nd} (hW : Wr B b l w) (hO : Ok B w) (hS : StrsIn B nv ns w) (hK : KidsIn B w kv ks) :
    Core B b w w.heap.size k o n s nv kv p ns ks (w.alloc (.cells #[.int .i64 k, .int .i64 o, .int .i64 n, .string s, nv, kv, .int .i64 p] 25)) := by
  have hal := (Below.refl w.heap.size w).alloc (Nat.le_refl _) (.cells #[.int .i64 k, .int .i64 o, .int .i64 n, .string s, nv, kv, .int .i64 p] 25)
  have q' := hal.mono hO.1
  have := wr_lt hW
  exact ⟨Near.ofBelow hal hO.1, box_new w k o n s nv kv p, by omega, ok_on hO q', strsIn_on hS q', kidsIn_on q' hK⟩

/-- what is known of the writer at an expression, at a statement -/
def ExprW (x : Nd) : Prop := ∀ (B b : Nat) (l : List UInt8) (w : World) (nv kv : Value), Hid (Wr B b l w) → Hid (Ok B w) → Hid (NdIn B w x nv kv) → rightN x 1 = true → smallN x = true → countN x ≤ 1000000 → l.length + (textN x).e.length ≤ 100000000 →
    Calls Tryd.prog 64 #[.pointer (some ⟨b, 0, none⟩), .agg #[.int .i64 x.kind, .int .i64 x.op, .int .i64 x.num, .string x.str, nv, kv, .int .i64 x.pl]] w (Done B b l (textN x).e w)
def StmtW (x : Nd) : Prop := ∀ (B b : Nat) (l : List UInt8) (w : World) (nv kv : Value), Hid (Wr B b l w) → Hid (Ok B w) → Hid (NdIn B w x nv kv) → rightN x 2 = true → smallN x = true → countN x ≤ 1000000 → l.length + (textN x).s.length ≤ 100000000 →
    Calls Tryd.prog 36 #[.pointer (some ⟨b, 0, none⟩), .agg #[.int .i64 x.kind, .int .i64 x.op, .int .i64 x.num, .string x.str, nv, kv, .int .i64 x.pl]] w (Done B b l (textN x).s w)

/-- what holds of one node that is to be written -/
def Fit (B : Nat) (x : Nd) (nv kv : Value) (r : Nat) (w : World) : Prop := NdIn B w x nv kv ∧ rightN x r = true ∧ smallN x = true ∧ countN x ≤ 1000000
theorem fit_near {B b : Nat} {x : Nd} {nv kv : Value} {r : Nat} {a c : World} (h : Fit B x nv kv r a) (q : Near B b a c) : Fit B x nv kv r c := ⟨ndIn_on q.below _ _ _ h.1, h.2⟩

theorem textN_rank (x : Nd) : (textN x).rank = rankT x.kind x.op := by cases x; rw [textN_mk]; rfl
theorem textN_kind (x : Nd) : (textN x).kind = x.kind := by cases x; rw [textN_mk]; rfl
theorem tight_le (x : Tx) (r : Int) : x.e.length ≤ (tightT x r).length := by unfold tightT; split <;> simp; omega

end Go.Proofs.YtlnllpehifkjhaaDoor
