/- strings.Builder, at the head of whatever block of the call's own: by itself, or embedded first in a struct. What text.Quote answers, for any string. What text.IsName and the document's answer, for any text. -/
import Derived.Test.YtgdbaceehpcgbaaDoorProg
import Derived.Test.YtgdbaceehpcgbaaDoorJoint2
import Derived.WalkKit
import Derived.WalkLawsBesides
import Derived.WalkSpells
import Derived.Outline
import Derived.Below
import Derived.Lib.Strings
import Derived.Lib.Builder
import Derived.Lib.AppendStr
import Derived.Lib.UnsafeStr
import Derived.Laws.Externs
import Derived.Test.YtgdbaceehpcgbaaDoorTxtPlain
import Derived.Handy
namespace Go.Proofs.YtgdbaceehpcgbaaDoor
open Go.RowKit

/-- a builder at the head of block b (one of the call's own: from B on), of type T, that holds the bytes l; ext: what lies behind it in the block -/
structure Bld (T : TypeId) (ext : List Value) (B b : Nat) (p v : Value) (l : List UInt8) (w : World) : Prop where
  low : B ≤ b
  seen : p = .pointer none ∨ p = .pointer (some ⟨b, 0, none⟩)
  blk : w.heap[b]? = some (.cells (p :: v :: ext).toArray T (0, 0))
  own : w.ownsRow B 5 1 v l.length (Lib.byteCells l)
  ne : v.ownBlock ≠ some b
  nil : l = [] → v = .slice none 0 0

def Has (T : TypeId) (ext : List Value) (B b : Nat) (l : List UInt8) (w : World) : Prop := ∃ p v, Bld T ext B b p v l w

theorem Has.lt {T : TypeId} {ext : List Value} {B b : Nat} {l : List UInt8} {w : World} (h : Has T ext B b l w) : b < w.heap.size := by
  obtain ⟨p, v, h⟩ := h
  rcases Nat.lt_or_ge b w.heap.size with h' | h'
  · exact h'
  · have := h.blk
    simp [Array.getElem?_eq_none h'] at this

theorem Has.cell {T : TypeId} {ext : List Value} {B b : Nat} {l : List UInt8} {w : World} (h : Has T ext B b l w) {j : Nat} {x : Value} (hj : ext[j]? = some x) : w.cell? ⟨b, j + 2, none⟩ = some x := by
  obtain ⟨p, v, h⟩ := h
  rw [Lib.cell_of_heap h.blk]
  simpa using hj

theorem Has.free {T : TypeId} {ext : List Value} {B b : Nat} {l : List UInt8} {w : World} (h : Has T ext B b l w) (j : Nat) : w.frozen? ⟨b, j, none⟩ = false := by
  obtain ⟨p, v, h⟩ := h
  exact Lib.frozen_of_heap h.blk j

/-- another cell of the block is written -/
theorem Has.put {T : TypeId} {ext : List Value} {B b : Nat} {l : List UInt8} {w : World} (h : Has T ext B b l w) (j : Nat) (x : Value) : Has T (ext.set j x) B b l (w.setCell ⟨b, j + 2, none⟩ x) := by
  obtain ⟨p, v, h⟩ := h
  refine ⟨p, v, h.low, h.seen, ?_, ?_, h.ne, h.nil⟩
  · simp [World.setCell, Array.getElem?_modify, h.blk]
  · exact h.own.kept (row := some b) ⟨rfl, rfl, rfl, by simp [World.setCell], fun k _ hk => Below.heap_setCell _ _ _ _ (fun e => hk (by simp [e]))⟩ (Or.inr h.ne)

theorem Has.drew {T : TypeId} {ext : List Value} {B b : Nat} {l : List UInt8} {w : World} (h : Has T ext B b l w) : Has T ext B b l w.drew := by
  obtain ⟨p, v, h⟩ := h
  exact ⟨p, v, h.low, h.seen, h.blk, h.own, h.ne, h.nil⟩

/-- a new builder -/
theorem has_new (T : TypeId) (ext : List Value) (w : World) (cs : Array Value) (hc : cs = (.pointer none :: .slice none 0 0 :: ext).toArray) : Has T ext w.heap.size w.heap.size [] (w.alloc (.cells cs T)) := by
  subst hc
  exact ⟨.pointer none, .slice none 0 0, Nat.le_refl _, Or.inl rfl, heap_alloc_new w _, World.ownsRow_nil _ _ _ _, by simp [Value.ownBlock], fun _ => rfl⟩

/-- a block that holds no bytes -/
def NoBytes (w : World) (k : Nat) : Prop := ∀ cur fz, w.heap[k]? ≠ some (.cells cur 5 fz)
/-- old memory, and of what is newer all but the builder's own block and blocks of bytes, is as it was -/
structure Near (B b : Nat) (w w' : World) : Prop where
  below : Below B w w'
  rest : ∀ k, k < w.heap.size → k ≠ b → NoBytes w k → w'.heap[k]? = w.heap[k]?
theorem Near.refl (B b : Nat) (w : World) : Near B b w w := ⟨Below.refl _ _, fun _ _ _ _ => rfl⟩
theorem Near.trans {B b : Nat} {x y z : World} (h : Near B b x y) (k : Near B b y z) : Near B b x z :=
  ⟨h.below.trans k.below, fun i hi hb hn => (k.rest i (Nat.lt_of_lt_of_le hi h.below.size) hb (fun c f => by rw [h.rest i hi hb hn]; exact hn c f)).trans (h.rest i hi hb hn)⟩
theorem Near.ofBelow {B b : Nat} {x y : World} (h : Below x.heap.size x y) (hB : B ≤ x.heap.size) : Near B b x y := ⟨h.mono hB, fun k hk _ _ => h.block k hk⟩
theorem Near.setOwn {B b : Nat} (w : World) (h : B ≤ b) (j : Nat) (x : Value) : Near B b w (w.setCell ⟨b, j, none⟩ x) :=
  ⟨(Below.refl B w).setCell (p := ⟨b, j, none⟩) h _, fun _ _ hb _ => Below.heap_setCell _ _ _ _ hb⟩
theorem near_grown {B b : Nat} {w w' : World} {v : Value} {n : Nat} {xs : List Value} (hown : w.ownsRow B 5 1 v n xs) (hg : w.grownBy w' v.ownBlock) (hB : B ≤ w.heap.size) : Near B b w w' := by
  refine ⟨(Below.refl B w).grown hg hB (fun k hk => (hown.lt k hk).1), fun k hk _ hn => hg.block k hk ?_⟩
  intro e
  rcases hown.2 with ⟨hv, _⟩ | ⟨g, cap, cur, hv, _, hh, _⟩
  · subst hv; simp [Value.ownBlock] at e
  · subst hv
    have : k = g := by simpa [Value.ownBlock] using e
    subst this
    exact hn _ _ hh

theorem under_unsafe : Tryd.prog.underlying 147 = some .unsafePointer := by kernel_rfl

theorem info8 : ∃ i0, Tryd.prog.info? 5 = some i0 ∧ i0.zero = some (.int .u8 0) ∧ i0.size = 1 ∧ i0.bytes = 1 :=
  info_parts (show (Tryd.prog.info? 5).map (fun i => (i.zero, i.size, i.bytes)) = some (some (.int .u8 0), 1, 1) by kernel_rfl)
theorem under_str : Tryd.prog.underlying 9 = some .string := by kernel_rfl

/-- the new buffer lies in its cell -/
theorem bld_put {T : TypeId} {ext : List Value} {B b : Nat} {p v v' : Value} {l : List UInt8} {w : World} (hB : B ≤ b) (hs : p = .pointer none ∨ p = .pointer (some ⟨b, 0, none⟩)) (hb : w.heap[b]? = some (.cells (p :: v :: ext).toArray T (0, 0)))
    (hown : w.ownsRow B 5 1 v' l.length (Lib.byteCells l)) (hT : T ≠ 5) (hl : l ≠ []) : Has T ext B b l (w.setCell ⟨b, 1, none⟩ v') := by
  have hne := Lib.ownBlock_ne hown hb hT
  refine ⟨p, v', hB, hs, ?_, ?_, hne, fun h => absurd h hl⟩
  · simp [World.setCell, Array.getElem?_modify, hb]
  · exact hown.kept (row := some b) ⟨rfl, rfl, rfl, by simp [World.setCell], fun k _ hk => Below.heap_setCell _ _ _ _ (fun e => hk (by simp [e]))⟩ (Or.inr hne)

theorem lt_of_block {w : World} {b : Nat} {o : Obj} (h : w.heap[b]? = some o) : b < w.heap.size := by
  rcases Nat.lt_or_ge b w.heap.size with h' | h'
  · exact h'
  · simp [Array.getElem?_eq_none h'] at h

end Go.Proofs.YtgdbaceehpcgbaaDoor

namespace Go.Proofs.YtgdbaceehpcgbaaDoor
set_option maxRecDepth 100000
open Go.RowKit

end Go.Proofs.YtgdbaceehpcgbaaDoor

namespace Go.Proofs.YtgdbaceehpcgbaaDoor
open Go.RowKit

theorem digit_calls (n : Nat) (w : World) :
    Calls Tryd.prog 104 #[.int .u8 (n : Int)] w fun e w' => e = .returned (.bool (digitN n)) ∧ w = w' := by
  rcases (show n < 48 ∨ (48 ≤ n ∧ n ≤ 57) ∨ 57 < n from by omega) with h | ⟨h1, h2⟩ | h
  · have H := hid (show digitN n = false by simp [digitN]; omega)
    go_enter Tryd.func104, Tryd.ntmps104
    go_wp2
    go_ret
    exact ⟨by rw [H.out]; rfl, rfl⟩
  · have H := hid (show digitN n = true by simp [digitN]; omega)
    have d : decide ((n : Int) ≤ 57) = true := decide_eq_true (by omega)
    go_enter Tryd.func104, Tryd.ntmps104
    go_wp2
    go_ret
    exact ⟨by rw [H.out]; rfl, rfl⟩
  · have H := hid (show digitN n = false by simp [digitN]; omega)
    have d : decide ((n : Int) ≤ 57) = false := decide_eq_false (by omega)
    go_enter Tryd.func104, Tryd.ntmps104
    go_wp2
    go_ret
    exact ⟨by rw [H.out]; rfl, rfl⟩

theorem letter_calls (n : Nat) (w : World) :
    Calls Tryd.prog 105 #[.int .u8 (n : Int)] w fun e w' => e = .returned (.bool (letterN n)) ∧ w = w' := by
  rcases (show n < 65 ∨ (65 ≤ n ∧ n ≤ 90) ∨ (91 ≤ n ∧ n ≤ 94) ∨ n = 95 ∨ n = 96 ∨ (97 ≤ n ∧ n ≤ 122) ∨ 122 < n from by omega) with h | h | h | h | h | h | h
  · have H := hid (show letterN n = false by simp [letterN]; omega)
    have e : ((n : Int) == 95) = false := beq_eq_false_iff_ne.2 (by omega)
    go_enter Tryd.func105, Tryd.ntmps105
    go_wp2
    go_ret
    exact ⟨by rw [H.out]; rfl, rfl⟩
  · have H := hid (show letterN n = true by simp [letterN]; omega)
    obtain ⟨h1, h2⟩ := h
    go_enter Tryd.func105, Tryd.ntmps105
    go_wp2
    go_ret
    exact ⟨by rw [H.out]; rfl, rfl⟩
  · have H := hid (show letterN n = false by simp [letterN]; omega)
    have e : ((n : Int) == 95) = false := beq_eq_false_iff_ne.2 (by omega)
    obtain ⟨h1, h2⟩ := h
    have d : decide ((n : Int) ≤ 90) = false := decide_eq_false (by omega)
    go_enter Tryd.func105, Tryd.ntmps105
    go_wp2
    go_ret
    exact ⟨by rw [H.out]; rfl, rfl⟩
  · subst h
    go_enter Tryd.func105, Tryd.ntmps105
    go_wp2
    go_ret
    exact ⟨rfl, rfl⟩
  · subst h
    go_enter Tryd.func105, Tryd.ntmps105
    go_wp2
    go_ret
    exact ⟨rfl, rfl⟩
  · have H := hid (show letterN n = true by simp [letterN]; omega)
    obtain ⟨h1, h2⟩ := h
    go_enter Tryd.func105, Tryd.ntmps105
    go_wp2
    go_ret
    exact ⟨by rw [H.out]; rfl, rfl⟩
  · have H := hid (show letterN n = false by simp [letterN]; omega)
    have e : ((n : Int) == 95) = false := beq_eq_false_iff_ne.2 (by omega)
    have d : decide ((n : Int) ≤ 90) = false := decide_eq_false (by omega)
    have d2 : decide ((n : Int) ≤ 122) = false := decide_eq_false (by omega)
    go_enter Tryd.func105, Tryd.ntmps105
    go_wp2
    go_ret
    exact ⟨by rw [H.out]; rfl, rfl⟩

theorem refletter_calls (n : Nat) (w : World) :
    Calls Tryd.prog 89 #[.int .u8 (n : Int)] w fun e w' => e = .returned (.bool (letterN n)) ∧ w = w' := by
  rcases (show n < 65 ∨ (65 ≤ n ∧ n ≤ 90) ∨ (91 ≤ n ∧ n ≤ 94) ∨ n = 95 ∨ n = 96 ∨ (97 ≤ n ∧ n ≤ 122) ∨ 122 < n from by omega) with h | h | h | h | h | h | h
  · have H := hid (show letterN n = false by simp [letterN]; omega)
    have e : ((n : Int) == 95) = false := beq_eq_false_iff_ne.2 (by omega)
    go_enter Tryd.func89, Tryd.ntmps89
    go_wp2
    go_ret
    exact ⟨by rw [H.out]; rfl, rfl⟩
  · have H := hid (show letterN n = true by simp [letterN]; omega)
    obtain ⟨h1, h2⟩ := h
    go_enter Tryd.func89, Tryd.ntmps89
    go_wp2
    go_ret
    exact ⟨by rw [H.out]; rfl, rfl⟩
  · have H := hid (show letterN n = false by simp [letterN]; omega)
    have e : ((n : Int) == 95) = false := beq_eq_false_iff_ne.2 (by omega)
    obtain ⟨h1, h2⟩ := h
    have d : decide ((n : Int) ≤ 90) = false := decide_eq_false (by omega)
    go_enter Tryd.func89, Tryd.ntmps89
    go_wp2
    go_ret
    exact ⟨by rw [H.out]; rfl, rfl⟩
  · subst h
    go_enter Tryd.func89, Tryd.ntmps89
    go_wp2
    go_ret
    exact ⟨rfl, rfl⟩
  · subst h
    go_enter Tryd.func89, Tryd.ntmps89
    go_wp2
    go_ret
    exact ⟨rfl, rfl⟩
  · have H := hid (show letterN n = true by simp [letterN]; omega)
    obtain ⟨h1, h2⟩ := h
    go_enter Tryd.func89, Tryd.ntmps89
    go_wp2
    go_ret
    exact ⟨by rw [H.out]; rfl, rfl⟩
  · have H := hid (show letterN n = false by simp [letterN]; omega)
    have e : ((n : Int) == 95) = false := beq_eq_false_iff_ne.2 (by omega)
    have d : decide ((n : Int) ≤ 90) = false := decide_eq_false (by omega)
    have d2 : decide ((n : Int) ≤ 122) = false := decide_eq_false (by omega)
    go_enter Tryd.func89, Tryd.ntmps89
    go_wp2
    go_ret
    exact ⟨by rw [H.out]; rfl, rfl⟩

def ld (c : UInt8) : Bool := letterN c.toNat || digitN c.toNat

theorem nameB_empty {s : ByteArray} (h : s.size = 0) : nameB s.data.toList = false := by
  have : s.data.toList = [] := List.length_eq_zero_iff.1 (by rw [list_size]; exact h)
  rw [this]; rfl
theorem nameB_long {s : ByteArray} (h : 12 < s.size) : nameB s.data.toList = false := by
  have hl := list_size s
  cases hs : s.data.toList with
  | nil => rfl
  | cons c r => rw [hs] at hl; simp at hl; simp [nameB]; omega
theorem nameB_first {s : ByteArray} (h : 0 < s.size) (hl : letterN s[0].toNat = false) : nameB s.data.toList = false := by
  have := drop_byte s 0 h
  rw [List.drop_zero] at this
  rw [this]; simp [nameB, hl]
theorem digit_no_letter {n : Nat} (h : digitN n = true) : letterN n = false := by
  simp [digitN] at h
  simp [letterN]; omega
theorem nameB_bad {s : ByteArray} {k : Nat} (h : k < s.size) (hb : ld s[k] = false) : nameB s.data.toList = false := by
  have hm : s[k] ∈ s.data.toList := by
    have := drop_byte s k h
    have h2 : s[k] ∈ s.data.toList.drop k := by rw [this]; simp
    exact List.mem_of_mem_drop h2
  cases hs : s.data.toList with
  | nil => rfl
  | cons c r =>
    rw [hs] at hm
    rcases List.mem_cons.1 hm with hc | hr
    · have : letterN c.toNat = false := by rw [← hc]; simp [ld] at hb; exact hb.1
      simp [nameB, this]
    · have : r.all (fun x => letterN x.toNat || digitN x.toNat) = false := by
        rw [List.all_eq_false]; exact ⟨_, hr, by simp [ld] at hb; simp [hb]⟩
      simp [nameB, this]
theorem nameB_good {s : ByteArray} (h : 0 < s.size) (h12 : s.size ≤ 12) (hl : letterN s[0].toNat = true) (ha : (s.data.toList.drop 1).all ld = true) : nameB s.data.toList = true := by
  have hlen := list_size s
  have := drop_byte s 0 h
  rw [List.drop_zero] at this
  rw [this] at hlen ⊢
  simp only [List.length_cons] at hlen
  have ha' : (s.data.toList.drop (0 + 1)).all (fun x => letterN x.toNat || digitN x.toNat) = true := ha
  simp only [nameB, hl, ha', Bool.true_and]
  simp at hlen ⊢; omega

theorem all_byte {s : ByteArray} {k : Nat} (h : k < s.size) (ha : (s.data.toList.take k).all ld = true) (hb : ld s[k] = true) : (s.data.toList.take (k + 1)).all ld = true := by
  rw [take_byte s k h, List.all_append, ha]; simp [hb]

theorem isname_calls (s : ByteArray) (w : World) :
    Calls Tryd.prog 101 #[.string s] w fun e w' => e = .returned (.bool (nameB s.data.toList)) ∧ w = w' := by
  by_cases h0 : s.size = 0
  · have H := hid (nameB_empty h0)
    have he2 : s.toList.isEmpty = true := by
      rw [Lib.toList_data, List.length_eq_zero_iff.1 (show s.data.toList.length = 0 by rw [list_size]; exact h0)]; rfl
    clear h0
    go_enter Tryd.func101, Tryd.ntmps101
    go_wp2
    go_ret
    exact ⟨by rw [H.out]; rfl, rfl⟩
  · have he2 : s.toList.isEmpty = false := by
      rw [Lib.toList_data]
      cases h : s.data.toList with
      | nil => exact absurd (show s.size = 0 by rw [← list_size, h]; rfl) h0
      | cons => rfl
    have hpos : 0 < s.size := by omega
    clear h0
    by_cases h12 : s.size ≤ 12
    · by_cases hd : digitN s[0].toNat
      · have H := hid (nameB_first hpos (digit_no_letter hd))
        go_enter Tryd.func101, Tryd.ntmps101
        go_wp2_with fail
        refine (digit_calls s[0].toNat _).mono ?_
        rintro e w1 ⟨rfl, rfl⟩
        go_wp2
        go_ret
        exact ⟨by rw [H.out]; rfl, rfl⟩
      · have Hd := hid hd
        go_enter Tryd.func101, Tryd.ntmps101
        go_wp2_with fail
        refine (digit_calls s[0].toNat _).mono ?_
        rintro e w1 ⟨rfl, rfl⟩
        go_wp2_with fail
        clear hd
        go_loop [3] (fun i => ∃ k : Nat, k ≤ s.size ∧ i = .int .i64 k ∧ (s.data.toList.take k).all ld = true) (fun i => s.size - (intOf i).toNat)
        case atStart => exact ⟨0, Nat.zero_le _, rfl, rfl⟩
        case round =>
          obtain ⟨k, hk, rfl, hall⟩ := hrel
          have Ha := hid hall
          clear hall
          by_cases hkl : k < s.size
          · go_wp2_with fail
            refine (letter_calls s[k].toNat _).mono ?_
            rintro e w1 ⟨rfl, rfl⟩
            by_cases hl : letterN s[k].toNat
            · have Hn := hid (all_byte hkl Ha.out (by simp [ld, hl]))
              go_wp2
              go_round
              case rel => exact ⟨k + 1, by omega, by go_num, Hn.out⟩
              case measure => simp [intOf]; omega
            · go_wp2_with fail
              refine (digit_calls s[k].toNat _).mono ?_
              rintro e w1 ⟨rfl, rfl⟩
              by_cases hd : digitN s[k].toNat
              · have Hn := hid (all_byte hkl Ha.out (by simp [ld, hd]))
                go_wp2
                go_round
                case rel => exact ⟨k + 1, by omega, by go_num, Hn.out⟩
                case measure => simp [intOf]; omega
              · have H := hid (nameB_bad hkl (by simp [ld, hl, hd]))
                go_wp2
                go_ret
                exact ⟨by rw [H.out]; rfl, rfl⟩
          · have H := hid (show nameB s.data.toList = true from by
              have ha := Ha.out
              rw [take_end s k (by omega)] at ha
              have h1 := drop_byte s 0 hpos
              rw [List.drop_zero] at h1
              rw [h1] at ha
              rw [List.all_cons] at ha
              have ha2 := Bool.and_eq_true_iff.1 ha
              refine nameB_good hpos h12 ?_ ha2.2
              have h3 := ha2.1
              simp [ld] at h3
              rcases h3 with h3 | h3
              · exact h3
              · exact absurd h3 Hd.out)
            clear Ha Hd
            go_wp2
            go_ret
            exact ⟨by rw [H.out]; rfl, rfl⟩
    · have H := hid (nameB_long (s := s) (by omega))
      go_enter Tryd.func101, Tryd.ntmps101
      go_wp2
      go_ret
      exact ⟨by rw [H.out]; rfl, rfl⟩

theorem refisname_calls (s : ByteArray) (w : World) :
    Calls Tryd.prog 74 #[.string s] w fun e w' => e = .returned (.bool (nameB s.data.toList)) ∧ w = w' := by
  by_cases h0 : s.size = 0
  · have H := hid (nameB_empty h0)
    have e0 : ((s.size : Int) == 0) = true := beq_iff_eq.2 (by omega)
    clear h0
    go_enter Tryd.func74, Tryd.ntmps74
    go_wp2
    go_ret
    exact ⟨by rw [H.out]; rfl, rfl⟩
  · have e0 : ((s.size : Int) == 0) = false := beq_eq_false_iff_ne.2 (by omega)
    have hpos : 0 < s.size := by omega
    clear h0
    by_cases h12 : s.size ≤ 12
    · by_cases hd : letterN s[0].toNat
      · have Hd := hid hd
        go_enter Tryd.func74, Tryd.ntmps74
        go_wp2_with fail
        refine (refletter_calls s[0].toNat _).mono ?_
        rintro e w1 ⟨rfl, rfl⟩
        go_wp2_with fail
        clear hd
        go_loop [3] (fun i => ∃ k : Nat, 1 ≤ k ∧ k ≤ s.size ∧ i = .int .i64 k ∧ (s.data.toList.take k).all ld = true) (fun i => s.size - (intOf i).toNat)
        case atStart => exact ⟨1, Nat.le_refl _, hpos, rfl, by rw [take_byte s 0 hpos]; simp [ld, Hd.out]⟩
        case round =>
          obtain ⟨k, hk1, hk, rfl, hall⟩ := hrel
          have Ha := hid hall
          clear hall
          by_cases hkl : k < s.size
          · go_wp2_with fail
            refine (refletter_calls s[k].toNat _).mono ?_
            rintro e w1 ⟨rfl, rfl⟩
            by_cases hl : letterN s[k].toNat
            · have Hn := hid (all_byte hkl Ha.out (by simp [ld, hl]))
              go_wp2
              go_round
              case rel => exact ⟨k + 1, by omega, by omega, by go_num, Hn.out⟩
              case measure => simp [intOf]; omega
            · rcases (show s[k].toNat < 48 ∨ 57 < s[k].toNat ∨ (48 ≤ s[k].toNat ∧ s[k].toNat ≤ 57) from by omega) with h1 | h2 | ⟨h3, h4⟩
              · have H := hid (nameB_bad hkl (by simp [ld, hl, digitN]; omega))
                go_wp2
                go_ret
                exact ⟨by rw [H.out]; rfl, rfl⟩
              · have H := hid (nameB_bad hkl (by simp [ld, hl, digitN]; omega))
                go_wp2
                go_ret
                exact ⟨by rw [H.out]; rfl, rfl⟩
              · have Hn := hid (all_byte hkl Ha.out (by simp [ld, digitN]; omega))
                go_wp2
                go_round
                case rel => exact ⟨k + 1, by omega, by omega, by go_num, Hn.out⟩
                case measure => simp [intOf]; omega
          · have H := hid (show nameB s.data.toList = true from by
              have ha := Ha.out
              rw [take_end s k (by omega)] at ha
              have h1 := drop_byte s 0 hpos
              rw [List.drop_zero] at h1
              rw [h1] at ha
              rw [List.all_cons] at ha
              have ha2 := Bool.and_eq_true_iff.1 ha
              exact nameB_good hpos h12 Hd.out ha2.2)
            clear Ha Hd
            go_wp2
            go_ret
            exact ⟨by rw [H.out]; rfl, rfl⟩
      · have H := hid (nameB_first hpos (by simpa using hd))
        go_enter Tryd.func74, Tryd.ntmps74
        go_wp2_with fail
        refine (refletter_calls s[0].toNat _).mono ?_
        rintro e w1 ⟨rfl, rfl⟩
        go_wp2
        go_ret
        exact ⟨by rw [H.out]; rfl, rfl⟩
    · have H := hid (nameB_long (s := s) (by omega))
      go_enter Tryd.func74, Tryd.ntmps74
      go_wp2
      go_ret
      exact ⟨by rw [H.out]; rfl, rfl⟩

end Go.Proofs.YtgdbaceehpcgbaaDoor
