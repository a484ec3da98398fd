/- strings.Builder, at the head of whatever block of the call's own: by itself, or embedded first in a struct. -/
import Derived.Test.YtimhgbcanmgajaaGreatProg
import Derived.Test.YtimhgbcanmgajaaGreatJoint1
import Derived.WalkKit
import Derived.WalkLawsBesides
import Derived.WalkSpells
import Derived.Outline
import Derived.Below
import Derived.Lib.Strings
import Derived.Lib.Builder
import Derived.Lib.AppendStr
import Derived.Lib.UnsafeStr
import Derived.Laws.Externs
namespace Go.Proofs.YtimhgbcanmgajaaGreat
open Go.RowKit

/-- a builder at the head of block b (one of the call's own: from B on), of type T, that holds the bytes l; ext: what lies behind it in the block -/
structure Bld (T : TypeId) (ext : List Value) (B b : Nat) (p v : Value) (l : List UInt8) (w : World) : Prop where
  low : B ≤ b
  seen : p = .pointer none ∨ p = .pointer (some ⟨b, 0, none⟩)
  blk : w.heap[b]? = some (.cells (p :: v :: ext).toArray T (0, 0))
  own : w.ownsRow B 5 1 v l.length (Lib.byteCells l)
  ne : v.ownBlock ≠ some b
  nil : l = [] → v = .slice none 0 0

def Has (T : TypeId) (ext : List Value) (B b : Nat) (l : List UInt8) (w : World) : Prop := ∃ p v, Bld T ext B b p v l w

/-- what is asked of the block's type -/
structure Fits (T : TypeId) (n : Nat) : Prop where
  lies : liesAt Tryz.prog Tryz.prog.depth T (n / Tryz.prog.cellsOf T) 0 118 1 = true
  ne : T ≠ 5

theorem Has.lt {T : TypeId} {ext : List Value} {B b : Nat} {l : List UInt8} {w : World} (h : Has T ext B b l w) : b < w.heap.size := by
  obtain ⟨p, v, h⟩ := h
  rcases Nat.lt_or_ge b w.heap.size with h' | h'
  · exact h'
  · have := h.blk
    simp [Array.getElem?_eq_none h'] at this

theorem Has.cell {T : TypeId} {ext : List Value} {B b : Nat} {l : List UInt8} {w : World} (h : Has T ext B b l w) {j : Nat} {x : Value} (hj : ext[j]? = some x) : w.cell? ⟨b, j + 2, none⟩ = some x := by
  obtain ⟨p, v, h⟩ := h
  rw [Lib.cell_of_heap h.blk]
  simpa using hj

theorem Has.free {T : TypeId} {ext : List Value} {B b : Nat} {l : List UInt8} {w : World} (h : Has T ext B b l w) (j : Nat) : w.frozen? ⟨b, j, none⟩ = false := by
  obtain ⟨p, v, h⟩ := h
  exact Lib.frozen_of_heap h.blk j

/-- another cell of the block is written -/
theorem Has.put {T : TypeId} {ext : List Value} {B b : Nat} {l : List UInt8} {w : World} (h : Has T ext B b l w) (j : Nat) (x : Value) : Has T (ext.set j x) B b l (w.setCell ⟨b, j + 2, none⟩ x) := by
  obtain ⟨p, v, h⟩ := h
  refine ⟨p, v, h.low, h.seen, ?_, ?_, h.ne, h.nil⟩
  · simp [World.setCell, Array.getElem?_modify, h.blk]
  · exact h.own.kept (row := some b) ⟨rfl, rfl, rfl, by simp [World.setCell], fun k _ hk => Below.heap_setCell _ _ _ _ (fun e => hk (by simp [e]))⟩ (Or.inr h.ne)

theorem Has.drew {T : TypeId} {ext : List Value} {B b : Nat} {l : List UInt8} {w : World} (h : Has T ext B b l w) : Has T ext B b l w.drew := by
  obtain ⟨p, v, h⟩ := h
  exact ⟨p, v, h.low, h.seen, h.blk, h.own, h.ne, h.nil⟩

/-- a new builder -/
theorem has_new (T : TypeId) (ext : List Value) (w : World) (cs : Array Value) (hc : cs = (.pointer none :: .slice none 0 0 :: ext).toArray) : Has T ext w.heap.size w.heap.size [] (w.alloc (.cells cs T)) := by
  subst hc
  exact ⟨.pointer none, .slice none 0 0, Nat.le_refl _, Or.inl rfl, heap_alloc_new w _, World.ownsRow_nil _ _ _ _, by simp [Value.ownBlock], fun _ => rfl⟩

/-- a block that holds no bytes -/
def NoBytes (w : World) (k : Nat) : Prop := ∀ cur fz, w.heap[k]? ≠ some (.cells cur 5 fz)
/-- old memory, and of what is newer all but the builder's own block and blocks of bytes, is as it was -/
structure Near (B b : Nat) (w w' : World) : Prop where
  below : Below B w w'
  rest : ∀ k, k < w.heap.size → k ≠ b → NoBytes w k → w'.heap[k]? = w.heap[k]?
theorem Near.refl (B b : Nat) (w : World) : Near B b w w := ⟨Below.refl _ _, fun _ _ _ _ => rfl⟩
theorem Near.trans {B b : Nat} {x y z : World} (h : Near B b x y) (k : Near B b y z) : Near B b x z :=
  ⟨h.below.trans k.below, fun i hi hb hn => (k.rest i (Nat.lt_of_lt_of_le hi h.below.size) hb (fun c f => by rw [h.rest i hi hb hn]; exact hn c f)).trans (h.rest i hi hb hn)⟩
theorem Near.ofBelow {B b : Nat} {x y : World} (h : Below x.heap.size x y) (hB : B ≤ x.heap.size) : Near B b x y := ⟨h.mono hB, fun k hk _ _ => h.block k hk⟩
theorem Near.setOwn {B b : Nat} (w : World) (h : B ≤ b) (j : Nat) (x : Value) : Near B b w (w.setCell ⟨b, j, none⟩ x) :=
  ⟨(Below.refl B w).setCell (p := ⟨b, j, none⟩) h _, fun _ _ hb _ => Below.heap_setCell _ _ _ _ hb⟩
theorem near_grown {B b : Nat} {w w' : World} {v : Value} {n : Nat} {xs : List Value} (hown : w.ownsRow B 5 1 v n xs) (hg : w.grownBy w' v.ownBlock) (hB : B ≤ w.heap.size) : Near B b w w' := by
  refine ⟨(Below.refl B w).grown hg hB (fun k hk => (hown.lt k hk).1), fun k hk _ hn => hg.block k hk ?_⟩
  intro e
  rcases hown.2 with ⟨hv, _⟩ | ⟨g, cap, cur, hv, _, hh, _⟩
  · subst hv; simp [Value.ownBlock] at e
  · subst hv
    have : k = g := by simpa [Value.ownBlock] using e
    subst this
    exact hn _ _ hh

theorem infoB : ∃ j, Tryz.prog.info? 118 = some j ∧ j.size = 2 := by
  have h : (Tryz.prog.info? 118).map (·.size) = some 2 := by kernel_rfl
  exact Option.map_eq_some_iff.1 h

theorem under_ptr : Tryz.prog.underlying 115 = some (.pointer 118) := by kernel_rfl
theorem under_unsafe : Tryz.prog.underlying 257 = some .unsafePointer := by kernel_rfl

set_option maxRecDepth 100000 in
theorem check_used (b : Nat) (w : World) (h0 : w.cell? ⟨b, 0, none⟩ = some (.pointer (some ⟨b, 0, none⟩))) :
    Calls Tryz.prog 132 #[.pointer (some ⟨b, 0, none⟩)] w fun e w' => e = .returned (.tuple #[]) ∧ w' = w := by
  obtain ⟨j, hj, _⟩ := infoB
  go_enter Tryz.func132, Tryz.ntmps132
  go_wp2
  rw [Lib.run_neq_ptr_same w _ under_ptr hj]
  go_wp2
  go_end0
  exact ⟨rfl, rfl⟩

set_option maxRecDepth 100000 in
theorem check_fresh (T : TypeId) (n : Nat) (hn : 0 < n) (b : Nat) (w : World) (h0 : w.cell? ⟨b, 0, none⟩ = some (.pointer none)) (hsh : w.shape? b = some (T, n)) (hfz : w.frozen? ⟨b, 0, none⟩ = false) (hF : Fits T n) :
    Calls Tryz.prog 132 #[.pointer (some ⟨b, 0, none⟩)] w fun e w' => e = .returned (.tuple #[]) ∧ w' = w.setCell ⟨b, 0, none⟩ (.pointer (some ⟨b, 0, none⟩)) := by
  obtain ⟨j, hj, hjs⟩ := infoB
  go_enter Tryz.func132, Tryz.ntmps132
  go_wp2
  rw [Lib.run_to_unsafe w ⟨b, 0, none⟩ under_ptr under_unsafe hj (by rw [hjs]; decide) hsh hn]
  simp only [Result.andThen]
  rw [Oper.upon_value]
  go_wp2
  rw [run_callFunc_extern Tryz.func158 (by kernel_rfl) (by kernel_rfl) (by kernel_rfl) (e := Extern.AbiNoEscape.same) (by kernel_rfl)]
  rw [Lib.run_noEscape]
  simp only [Result.andThen]
  rw [Oper.upon_value]
  go_wp2
  rw [Lib.run_from_unsafe w ⟨b, 0, none⟩ under_unsafe under_ptr hj hsh hF.lies]
  simp only [Result.andThen]
  rw [Oper.upon_value]
  go_wp2
  go_end0
  exact ⟨rfl, rfl⟩

theorem check_near (T : TypeId) (ext : List Value) (B b : Nat) (l : List UInt8) (w : World) (h : Has T ext B b l w) (hF : Fits T (ext.length + 2)) :
    Calls Tryz.prog 132 #[.pointer (some ⟨b, 0, none⟩)] w fun e w' => e = .returned (.tuple #[]) ∧ (∃ v, Bld T ext B b (.pointer (some ⟨b, 0, none⟩)) v l w') ∧ Near B b w w' := by
  obtain ⟨p, v, h⟩ := h
  have c0 : w.cell? ⟨b, 0, none⟩ = some p := by rw [Lib.cell_of_heap h.blk]; rfl
  rcases h.seen with hp | hp
  · subst hp
    refine (check_fresh T (ext.length + 2) (by omega) b w c0 (by simp [World.shape?, h.blk]) (Lib.frozen_of_heap h.blk 0) hF).mono ?_
    rintro e w' ⟨rfl, rfl⟩
    refine ⟨rfl, ⟨v, h.low, Or.inr rfl, ?_, ?_, h.ne, h.nil⟩, Near.setOwn w h.low 0 _⟩
    · simp [World.setCell, Array.getElem?_modify, h.blk]
    · exact h.own.kept (row := some b) ⟨rfl, rfl, rfl, by simp [World.setCell], fun k _ hk => Below.heap_setCell _ _ _ _ (fun e => hk (by simp [e]))⟩ (Or.inr h.ne)
  · subst hp
    refine (check_used b w c0).mono ?_
    rintro e w' ⟨rfl, rfl⟩
    exact ⟨rfl, ⟨v, h⟩, Near.refl B b _⟩

theorem check_calls (T : TypeId) (ext : List Value) (B b : Nat) (l : List UInt8) (w : World) (h : Has T ext B b l w) (hF : Fits T (ext.length + 2)) :
    Calls Tryz.prog 132 #[.pointer (some ⟨b, 0, none⟩)] w fun e w' => e = .returned (.tuple #[]) ∧ (∃ v, Bld T ext B b (.pointer (some ⟨b, 0, none⟩)) v l w') ∧ Below B w w' :=
  (check_near T ext B b l w h hF).mono fun _ _ ⟨h1, h2, h3⟩ => ⟨h1, h2, h3.below⟩

theorem info8 : ∃ i0, Tryz.prog.info? 5 = some i0 ∧ i0.zero = some (.int .u8 0) ∧ i0.size = 1 ∧ i0.bytes = 1 :=
  info_parts (show (Tryz.prog.info? 5).map (fun i => (i.zero, i.size, i.bytes)) = some (some (.int .u8 0), 1, 1) by kernel_rfl)
theorem under_bytes : Tryz.prog.underlying 116 = some (.slice 5) := by kernel_rfl
theorem under_str : Tryz.prog.underlying 9 = some .string := by kernel_rfl

/-- the new buffer lies in its cell -/
theorem bld_put {T : TypeId} {ext : List Value} {B b : Nat} {p v v' : Value} {l : List UInt8} {w : World} (hB : B ≤ b) (hs : p = .pointer none ∨ p = .pointer (some ⟨b, 0, none⟩)) (hb : w.heap[b]? = some (.cells (p :: v :: ext).toArray T (0, 0)))
    (hown : w.ownsRow B 5 1 v' l.length (Lib.byteCells l)) (hT : T ≠ 5) (hl : l ≠ []) : Has T ext B b l (w.setCell ⟨b, 1, none⟩ v') := by
  have hne := Lib.ownBlock_ne hown hb hT
  refine ⟨p, v', hB, hs, ?_, ?_, hne, fun h => absurd h hl⟩
  · simp [World.setCell, Array.getElem?_modify, hb]
  · exact hown.kept (row := some b) ⟨rfl, rfl, rfl, by simp [World.setCell], fun k _ hk => Below.heap_setCell _ _ _ _ (fun e => hk (by simp [e]))⟩ (Or.inr hne)

theorem lt_of_block {w : World} {b : Nat} {o : Obj} (h : w.heap[b]? = some o) : b < w.heap.size := by
  rcases Nat.lt_or_ge b w.heap.size with h' | h'
  · exact h'
  · simp [Array.getElem?_eq_none h'] at h

set_option maxHeartbeats 2000000 in
theorem writeByte_near (T : TypeId) (ext : List Value) (B b : Nat) (l : List UInt8) (c : UInt8) (n : Int) (hn : n = (c.toNat : Int)) (w : World) (h : Has T ext B b l w) (hF : Fits T (ext.length + 2)) (hlen : l.length + 1 ≤ 140737488355328) (hBw : B ≤ w.heap.size) :
    Calls Tryz.prog 159 #[.pointer (some ⟨b, 0, none⟩), .int .u8 n] w fun e w' => e = .returned .nilIface ∧ Has T ext B b (l ++ [c]) w' ∧ Near B b w w' := by
  subst hn
  obtain ⟨i0, hi, hz0, hz1, hz2⟩ := info8
  have hT := hF.ne
  go_enter Tryz.func159, Tryz.ntmps159
  go_wp2_with (go_at_call 132; refine (check_near T ext B b l _ h hF).mono ?_)
  rintro e w1 ⟨rfl, ⟨v, h1⟩, hn1⟩
  have hb1 := hn1.below
  have hbk := h1.blk
  have hown := h1.own
  have hne := h1.ne
  have c0 : w1.cell? ⟨b, 0, none⟩ = some (.pointer (some ⟨b, 0, none⟩)) := by rw [Lib.cell_of_heap hbk]; rfl
  have c1 : w1.cell? ⟨b, 1, none⟩ = some v := by rw [Lib.cell_of_heap hbk]; rfl
  go_wp2_with (at_builtin; refine wpList_append_own _ rfl _ _ 116 rfl B 5 i0 (.int .u8 0) 1 1 under_bytes hi hz0 hz1 hz2 rfl (by decide) _ _ _ rfl (hown.alloc _) ⟨w1.heap.size, 0, none⟩ 1 1 [.int .u8 (c.toNat : Int)] rfl rfl ?c1 ?c2 ?c3 ?c4 ?c5 ?_)
  case c1 =>
    intro j u hj
    match j, hj with
    | 0, hj => simp at hj; subst hj; simp [Addr.add]
  case c2 => intro u hu; simp at hu; subst hu; rfl
  case c3 => unfold maxLen; omega
  case c4 => omega
  case c5 => have := hb1.size; simp; omega
  intro v' w2 hown' hgrow _
  have hlt := lt_of_block hbk
  have hb2 : w2.heap[b]? = some (.cells (.pointer (some ⟨b, 0, none⟩) :: v :: ext).toArray T (0, 0)) := by
    rw [hgrow.block b (by simp; omega) (fun e => hne e.symm), Lib.alloc_old w1 _ b hlt]
    exact hbk
  have d0 : w2.cell? ⟨b, 0, none⟩ = some (.pointer (some ⟨b, 0, none⟩)) := by rw [Lib.cell_of_heap hb2]; rfl
  have d1 : w2.cell? ⟨b, 1, none⟩ = some v := by rw [Lib.cell_of_heap hb2]; rfl
  have f1 : w2.frozen? ⟨b, 1, none⟩ = false := Lib.frozen_of_heap hb2 1
  obtain ⟨g, cap, rfl⟩ : ∃ g cap, v' = .slice (some ⟨g, 0, none⟩) (l.length + 1) cap := by
    rcases hown'.2 with ⟨_, h0⟩ | ⟨g, cap, cur, hv, _⟩
    · omega
    · exact ⟨g, cap, hv⟩
  go_wp2
  go_ret
  refine ⟨rfl, ?_, ?_⟩
  · refine bld_put h1.low (Or.inr rfl) hb2 (l := l ++ [c]) ?_ hT (by simp)
    rw [Lib.byteCells_append, List.length_append]
    exact hown'
  · have hsz := hb1.size
    have n1 : Near B b w1 (w1.alloc (.cells #[.int .u8 (c.toNat : Int)] 5)) := Near.ofBelow ((Below.refl _ _).alloc (Nat.le_refl _) _) (by omega)
    exact ((hn1.trans n1).trans (near_grown (hown.alloc _) hgrow (by simp; omega))).trans (Near.setOwn _ h1.low 1 _)

theorem writeByte_calls (T : TypeId) (ext : List Value) (B b : Nat) (l : List UInt8) (c : UInt8) (n : Int) (hn : n = (c.toNat : Int)) (w : World) (h : Has T ext B b l w) (hF : Fits T (ext.length + 2)) (hlen : l.length + 1 ≤ 140737488355328) (hBw : B ≤ w.heap.size) :
    Calls Tryz.prog 159 #[.pointer (some ⟨b, 0, none⟩), .int .u8 n] w fun e w' => e = .returned .nilIface ∧ Has T ext B b (l ++ [c]) w' ∧ Below B w w' :=
  (writeByte_near T ext B b l c n hn w h hF hlen hBw).mono fun _ _ ⟨h1, h2, h3⟩ => ⟨h1, h2, h3.below⟩

set_option maxHeartbeats 2000000 in
theorem writeString_near (T : TypeId) (ext : List Value) (B b : Nat) (l : List UInt8) (s : ByteArray) (hs0 : l ++ s.data.toList ≠ []) (w : World) (h : Has T ext B b l w) (hF : Fits T (ext.length + 2)) (hlen : l.length + s.size ≤ 140737488355328) (hBw : B ≤ w.heap.size) :
    Calls Tryz.prog 99 #[.pointer (some ⟨b, 0, none⟩), .string s] w fun e w' => e = .returned (.tuple #[.int .i64 s.size, .nilIface]) ∧ Has T ext B b (l ++ s.data.toList) w' ∧ Near B b w w' := by
  obtain ⟨i0, hi, hz0, hz1, hz2⟩ := info8
  have hT := hF.ne
  go_enter Tryz.func99, Tryz.ntmps99
  go_wp2_with (go_at_call 132; refine (check_near T ext B b l _ h hF).mono ?_)
  rintro e w1 ⟨rfl, ⟨v, h1⟩, hn1⟩
  have hb1 := hn1.below
  have hbk := h1.blk
  have hown := h1.own
  have hne := h1.ne
  have c0 : w1.cell? ⟨b, 0, none⟩ = some (.pointer (some ⟨b, 0, none⟩)) := by rw [Lib.cell_of_heap hbk]; rfl
  have c1 : w1.cell? ⟨b, 1, none⟩ = some v := by rw [Lib.cell_of_heap hbk]; rfl
  go_wp2_with (at_builtin; refine Lib.wpList_append_own_string _ rfl _ _ 116 9 rfl B 5 i0 under_bytes under_str hi hz0 hz1 hz2 _ _ _ rfl hown s rfl ?c3 ?c4 ?c5 ?_)
  case c3 => unfold maxLen; omega
  case c4 => omega
  case c5 => have := hb1.size; omega
  intro v' w2 hown' hgrow _
  have hlt := lt_of_block hbk
  have hb2 : w2.heap[b]? = some (.cells (.pointer (some ⟨b, 0, none⟩) :: v :: ext).toArray T (0, 0)) := by
    rw [hgrow.block b hlt (fun e => hne e.symm)]
    exact hbk
  have d0 : w2.cell? ⟨b, 0, none⟩ = some (.pointer (some ⟨b, 0, none⟩)) := by rw [Lib.cell_of_heap hb2]; rfl
  have d1 : w2.cell? ⟨b, 1, none⟩ = some v := by rw [Lib.cell_of_heap hb2]; rfl
  have f1 : w2.frozen? ⟨b, 1, none⟩ = false := Lib.frozen_of_heap hb2 1
  obtain ⟨ao, n', cap, rfl⟩ : ∃ ao n' cap, v' = .slice ao n' cap := by
    rcases hown'.2 with ⟨hv, _⟩ | ⟨g, cap, cur, hv, _⟩
    · exact ⟨_, _, _, hv⟩
    · exact ⟨_, _, _, hv⟩
  go_wp2
  go_ret2
  refine ⟨rfl, ?_, ?_⟩
  · refine bld_put h1.low (Or.inr rfl) hb2 (l := l ++ s.data.toList) ?_ hT hs0
    rw [Lib.byteCells_append, List.length_append, ← Lib.strCells_eq]
    simpa using hown'
  · have hsz := hb1.size
    exact (hn1.trans (near_grown hown hgrow (by omega))).trans (Near.setOwn _ h1.low 1 _)

theorem writeString_calls (T : TypeId) (ext : List Value) (B b : Nat) (l : List UInt8) (s : ByteArray) (hs0 : s.data.toList ≠ []) (w : World) (h : Has T ext B b l w) (hF : Fits T (ext.length + 2)) (hlen : l.length + s.size ≤ 140737488355328) (hBw : B ≤ w.heap.size) :
    Calls Tryz.prog 99 #[.pointer (some ⟨b, 0, none⟩), .string s] w fun e w' => e = .returned (.tuple #[.int .i64 s.size, .nilIface]) ∧ Has T ext B b (l ++ s.data.toList) w' ∧ Below B w w' :=
  (writeString_near T ext B b l s (by simp [hs0]) w h hF hlen hBw).mono fun _ _ ⟨h1, h2, h3⟩ => ⟨h1, h2, h3.below⟩

theorem string_some (T : TypeId) (ext : List Value) (B b : Nat) (p v : Value) (l : List UInt8) (w : World) (h : Bld T ext B b p v l w) (h0 : l ≠ []) :
    Calls Tryz.prog 47 #[.pointer (some ⟨b, 0, none⟩)] w fun e w' => e = .returned (.string ⟨l.toArray⟩) ∧ Below B w w' ∧ ∀ j, w'.cell? ⟨b, j, none⟩ = w.cell? ⟨b, j, none⟩ := by
  have hl0 : l.length ≠ 0 := by simpa using h0
  have hbk := h.blk
  have hown := h.own
  have hne := h.ne
  obtain ⟨g, cap, cur, rfl, hbg, hg, hnc, hcm, hcs, htake⟩ : ∃ g cap cur, v = .slice (some ⟨g, 0, none⟩) l.length cap ∧ B ≤ g ∧ w.heap[g]? = some (.cells cur 5 (0, 0)) ∧ l.length ≤ cap ∧ cap ≤ maxLen ∧ cur.size = cap * 1 ∧ cur.toList.take (l.length * 1) = Lib.byteCells l := by
    rcases hown.2 with ⟨_, hz⟩ | ⟨g, cap, cur, hv, r⟩
    · exact absurd hz hl0
    · exact ⟨g, cap, cur, hv, r⟩
  have hgb : g ≠ b := fun e => hne (by simp [Value.ownBlock, e])
  have c1 : w.drew.cell? ⟨b, 1, none⟩ = some (.slice (some ⟨g, 0, none⟩) l.length cap) := by
    have : w.drew.heap[b]? = some (.cells (p :: .slice (some ⟨g, 0, none⟩) l.length cap :: ext).toArray T (0, 0)) := hbk
    rw [Lib.cell_of_heap this]; rfl
  have hSD : (Builtin.unsafeSliceData_ #[116] 197 #[.slice (some ⟨g, 0, none⟩) l.length cap]).run Tryz.prog w.drew = .ok (.pointer (some ⟨g, 0, none⟩)) w.drew :=
    Lib.run_unsafeSliceData_row _ _ _ _ _ _ (by omega)
  have hUS : (Builtin.unsafeString_ #[197, 3] 9 #[.pointer (some ⟨g, 0, none⟩), .int .i64 l.length]).run Tryz.prog w.drew = .ok (.string ⟨l.toArray⟩) (w.drew.freeze ⟨g, 0, none⟩ l.length) := by
    refine Lib.run_unsafeString_row w.drew 197 3 9 5 (by kernel_rfl) (by kernel_rfl) g cur.size (by have hg' : w.drew.heap[g]? = some (.cells cur 5 (0, 0)) := hg; simp [World.shape?, hg']) l h0 (by omega) (by unfold maxLen at hcm; omega) ?_
    intro j x hx
    have := hown.cells (g := g) rfl j (.int .u8 x.toNat) (by simp [Lib.byteCells, hx])
    exact this
  have Hout : Hid (∀ j, (w.drew.freeze ⟨g, 0, none⟩ l.length).cell? ⟨b, j, none⟩ = w.cell? ⟨b, j, none⟩) := by
    intro j
    refine World.cell?_of_block ?_
    show (w.drew.freeze ⟨g, 0, none⟩ l.length).heap[b]? = w.heap[b]?
    simp only [World.freeze]
    rw [if_neg hl0]
    simp only [Array.getElem?_modify]
    rw [if_neg hgb]
    rfl
  have Hg := hid hbg
  clear hgb hg hbk hown hne htake hcs hcm hnc h hl0 hbg h0
  go_enter Tryz.func47, Tryz.ntmps47
  go_wp2
  go_region
  all_goals (go_wp2; go_ret; exact ⟨rfl, Lib.below_freeze (Below.drew (Below.refl B w)) (p := ⟨g, 0, none⟩) Hg.out _, Hout.out⟩)

theorem string_none (T : TypeId) (ext : List Value) (B b : Nat) (p : Value) (w : World) (h : Bld T ext B b p (.slice none 0 0) [] w) :
    Calls Tryz.prog 47 #[.pointer (some ⟨b, 0, none⟩)] w fun e w' => e = .returned (.string ⟨#[]⟩) ∧ Below B w w' ∧ ∀ j, w'.cell? ⟨b, j, none⟩ = w.cell? ⟨b, j, none⟩ := by
  have hbk := h.blk
  have c1 : w.drew.cell? ⟨b, 1, none⟩ = some (.slice none 0 0) := by
    have : w.drew.heap[b]? = some (.cells (p :: .slice none 0 0 :: ext).toArray T (0, 0)) := hbk
    rw [Lib.cell_of_heap this]; rfl
  have hSD : (Builtin.unsafeSliceData_ #[116] 197 #[.slice none 0 0]).run Tryz.prog w.drew = .ok (.pointer none) w.drew := rfl
  have hUS := fun (W : World) (q : Option Addr) => Lib.run_unsafeString_none (P := Tryz.prog) W 197 3 9 q
  clear hbk h
  go_enter Tryz.func47, Tryz.ntmps47
  go_wp2
  go_region
  all_goals (go_wp2; go_ret; exact ⟨rfl, Below.drew (Below.refl B w), fun _ => rfl⟩)

theorem string_calls (T : TypeId) (ext : List Value) (B b : Nat) (l : List UInt8) (w : World) (h : Has T ext B b l w) :
    Calls Tryz.prog 47 #[.pointer (some ⟨b, 0, none⟩)] w fun e w' => e = .returned (.string ⟨l.toArray⟩) ∧ Below B w w' ∧ ∀ j, w'.cell? ⟨b, j, none⟩ = w.cell? ⟨b, j, none⟩ := by
  obtain ⟨p, v, h⟩ := h
  by_cases hl : l = []
  · have := h.nil hl
    subst hl this
    exact string_none T ext B b p w h
  · exact string_some T ext B b p v l w h hl

end Go.Proofs.YtimhgbcanmgajaaGreat
