/- The writer: what it holds, and what it writes at once. -/
import Derived.Test.YtlnllpehifkjhaaDoorBld
import Derived.Test.YtlnllpehifkjhaaDoorJoint2
import Derived.Test.YtlnllpehifkjhaaDoorTreeRank
namespace Go.Proofs.YtlnllpehifkjhaaDoor
open Go.RowKit

theorem fits_writer : Fits 43 2 := ⟨by kernel_rfl, by decide⟩
/-- a writer at block b that has written l -/
def Wr (B b : Nat) (l : List UInt8) (w : World) : Prop := Has 43 [] B b l w ∧ B ≤ w.heap.size
theorem wr_near {B b : Nat} {l l' : List UInt8} {a c : World} (h : Wr B b l a) (h' : Has 43 [] B b l' c) (q : Near B b a c) : Wr B b l' c := ⟨h', Nat.le_trans h.2 q.below.size⟩
theorem wr_lt {B b : Nat} {l : List UInt8} {w : World} (h : Wr B b l w) : b < w.heap.size := h.1.lt
theorem wr_low {B b : Nat} {l : List UInt8} {w : World} (h : Wr B b l w) : B ≤ b := by obtain ⟨⟨p, v, h⟩, _⟩ := h; exact h.low
theorem wr_drew {B b : Nat} {l : List UInt8} {w : World} (h : Wr B b l w) : Wr B b l w.drew := ⟨h.1.drew, h.2⟩
/-- new blocks, and whatever leaves all old ones alone -/
theorem wr_below {B b : Nat} {l : List UInt8} {a c : World} (h : Wr B b l a) (q : Below a.heap.size a c) : Wr B b l c := by
  obtain ⟨⟨p, v, h1⟩, h2⟩ := h
  have hb : b < a.heap.size := wr_lt ⟨⟨p, v, h1⟩, h2⟩
  refine ⟨⟨p, v, h1.low, h1.seen, (q.block b hb).trans h1.blk, ?_, h1.ne, h1.nil⟩, Nat.le_trans h2 q.size⟩
  refine ⟨h1.own.1, ?_⟩
  rcases h1.own.2 with h3 | ⟨g, cap, cur, hv, hg, hh, r⟩
  · exact .inl h3
  · have hgl : g < a.heap.size := lt_of_block hh
    exact .inr ⟨g, cap, cur, hv, hg, (q.block g hgl).trans hh, r⟩
theorem wr_shape {B b : Nat} {l : List UInt8} {w : World} (h : Wr B b l w) : ∃ ao cap, w.cell? ⟨b, 1, none⟩ = some (.slice ao l.length cap) := by
  obtain ⟨⟨p, v, h1⟩, _⟩ := h
  have c1 : w.cell? ⟨b, 1, none⟩ = some v := by rw [Lib.cell_of_heap h1.blk]; rfl
  rcases h1.own.2 with ⟨hv, hz⟩ | ⟨g, cap, cur, hv, _⟩
  · exact ⟨none, 0, by rw [c1, hv, hz]⟩
  · exact ⟨_, cap, by rw [c1, hv]⟩

theorem full_calls {B b : Nat} {l : List UInt8} {w : World} (h : Hid (Wr B b l w)) (hl : l.length ≤ 1000000000) :
    Calls Tryd.prog 24 #[.pointer (some ⟨b, 0, none⟩)] w fun e w' => e = .returned (.bool (decide (2000 < l.length))) ∧ w = w' := by
  obtain ⟨ao, cap, c1⟩ := wr_shape h.out
  clear h
  by_cases h2 : 2000 < l.length
  · have H := hid (show decide (2000 < l.length) = true from decide_eq_true h2)
    have d : decide ((2000 : Int) < (l.length : Int)) = true := decide_eq_true (by omega)
    go_enter Tryd.func24, Tryd.ntmps24
    go_wp2
    go_ret
    exact ⟨by rw [H.out]; rfl, rfl⟩
  · have H := hid (show decide (2000 < l.length) = false from decide_eq_false h2)
    have d : decide ((2000 : Int) < (l.length : Int)) = false := decide_eq_false (by omega)
    go_enter Tryd.func24, Tryd.ntmps24
    go_wp2
    go_ret
    exact ⟨by rw [H.out]; rfl, rfl⟩

/-- what a call of the writer leaves -/
def Done (B b : Nat) (l t : List UInt8) (w : World) (e : Ending) (w' : World) : Prop := e = .returned (.tuple #[]) ∧ ∃ l', Wr B b l' w' ∧ Wrote l t l' ∧ Near B b w w'

theorem wbyte_calls {B b : Nat} {l : List UInt8} {w : World} (c : UInt8) (n : Int) (hn : n = (c.toNat : Int)) (h : Hid (Wr B b l w)) (hl : l.length ≤ 1000000000) :
    Calls Tryd.prog 35 #[.pointer (some ⟨b, 0, none⟩), .int .u8 n] w fun e w' => e = .returned .nilIface ∧ Wr B b (l ++ [c]) w' ∧ Near B b w w' :=
  (writeByte_near _ _ B b l c n hn w h.out.1 fits_writer (by omega) h.out.2).mono fun _ _ ⟨h1, h2, h3⟩ => ⟨h1, wr_near h.out h2 h3, h3⟩
theorem wstr_calls {B b : Nat} {l : List UInt8} {w : World} (s : ByteArray) (hs0 : l ++ s.data.toList ≠ []) (h : Hid (Wr B b l w)) (hl : l.length ≤ 1000000000) (hs : s.size ≤ 1000000000) :
    Calls Tryd.prog 49 #[.pointer (some ⟨b, 0, none⟩), .string s] w fun e w' => e = .returned (.tuple #[.int .i64 s.size, .nilIface]) ∧ Wr B b (l ++ s.data.toList) w' ∧ Near B b w w' :=
  (writeString_near _ _ B b l s hs0 w h.out.1 fits_writer (by omega) h.out.2).mono fun _ _ ⟨h1, h2, h3⟩ => ⟨h1, wr_near h.out h2 h3, h3⟩

theorem box_near {B b g : Nat} {k o n : Int} {s : ByteArray} {nv kv : Value} {p : Int} {a c : World} (h : Box g k o n s nv kv p a) (hg : g ≠ b) (q : Near B b a c) : Box g k o n s nv kv p c := by
  refine (q.rest g (box_lt h) hg ?_).trans h
  intro cur fz e
  rw [h] at e
  injection e with e
  injection e with _ e _
  exact absurd e (by decide)

/-- a node's box beside the writer, and where its kids are -/
def Core (B b : Nat) (w0 : World) (g : Nat) (k o n : Int) (s : ByteArray) (nv kv : Value) (p : Int) (ns : List ByteArray) (ks : List Nd) (a : World) : Prop :=
  Near B b w0 a ∧ Box g k o n s nv kv p a ∧ g ≠ b ∧ Ok B a ∧ StrsIn B nv ns a ∧ KidsIn B a kv ks
theorem core_near {B b g : Nat} {w0 a c : World} {k o n : Int} {s : ByteArray} {nv kv : Value} {p : Int} {ns : List ByteArray} {ks : List Nd} (h : Core B b w0 g k o n s nv kv p ns ks a) (q : Near B b a c) : Core B b w0 g k o n s nv kv p ns ks c := by
  obtain ⟨h1, h2, h3, h4, h5, h6⟩ := h
  exact ⟨h1.trans q, box_near h2 h3 q, h3, ok_on h4 q.below, strsIn_on h5 q.below, kidsIn_on q.below h6⟩
theorem near_drew {B b : Nat} {a c : World} (h : Near B b a c) : Near B b a c.drew := ⟨h.below.drew, h.rest⟩
theorem core_new {B b : Nat} {l : List UInt8} {w : World} {k o n : Int} {s : ByteArray} {nv kv : Value} {p : Int} {ns : List ByteArray} {ks : List Nd} (hW : Wr B b l w) (hO : Ok B w) (hS : StrsIn B nv ns w) (hK : KidsIn B w kv ks) :
    Core B b w w.heap.size k o n s nv kv p ns ks (w.alloc (.cells #[.int .i64 k, .int .i64 o, .int .i64 n, .string s, nv, kv, .int .i64 p] 25)) := by
  have hal := (Below.refl w.heap.size w).alloc (Nat.le_refl _) (.cells #[.int .i64 k, .int .i64 o, .int .i64 n, .string s, nv, kv, .int .i64 p] 25)
  have q' := hal.mono hO.1
  have := wr_lt hW
  exact ⟨Near.ofBelow hal hO.1, box_new w k o n s nv kv p, by omega, ok_on hO q', strsIn_on hS q', kidsIn_on q' hK⟩

/-- what is known of the writer at an expression, at a statement -/
def ExprW (x : Nd) : Prop := ∀ (B b : Nat) (l : List UInt8) (w : World) (nv kv : Value), Hid (Wr B b l w) → Hid (Ok B w) → Hid (NdIn B w x nv kv) → rightN x 1 = true → smallN x = true → countN x ≤ 1000000 → l.length + (textN x).e.length ≤ 100000000 →
    Calls Tryd.prog 64 #[.pointer (some ⟨b, 0, none⟩), .agg #[.int .i64 x.kind, .int .i64 x.op, .int .i64 x.num, .string x.str, nv, kv, .int .i64 x.pl]] w (Done B b l (textN x).e w)
def StmtW (x : Nd) : Prop := ∀ (B b : Nat) (l : List UInt8) (w : World) (nv kv : Value), Hid (Wr B b l w) → Hid (Ok B w) → Hid (NdIn B w x nv kv) → rightN x 2 = true → smallN x = true → countN x ≤ 1000000 → l.length + (textN x).s.length ≤ 100000000 →
    Calls Tryd.prog 36 #[.pointer (some ⟨b, 0, none⟩), .agg #[.int .i64 x.kind, .int .i64 x.op, .int .i64 x.num, .string x.str, nv, kv, .int .i64 x.pl]] w (Done B b l (textN x).s w)

/-- what holds of one node that is to be written -/
def Fit (B : Nat) (x : Nd) (nv kv : Value) (r : Nat) (w : World) : Prop := NdIn B w x nv kv ∧ rightN x r = true ∧ smallN x = true ∧ countN x ≤ 1000000
theorem fit_near {B b : Nat} {x : Nd} {nv kv : Value} {r : Nat} {a c : World} (h : Fit B x nv kv r a) (q : Near B b a c) : Fit B x nv kv r c := ⟨ndIn_on q.below _ _ _ h.1, h.2⟩

theorem textN_rank (x : Nd) : (textN x).rank = rankT x.kind x.op := by cases x; rw [textN_mk]; rfl
theorem textN_kind (x : Nd) : (textN x).kind = x.kind := by cases x; rw [textN_mk]; rfl
theorem tight_le (x : Tx) (r : Int) : x.e.length ≤ (tightT x r).length := by unfold tightT; split <;> simp; omega

end Go.Proofs.YtlnllpehifkjhaaDoor
