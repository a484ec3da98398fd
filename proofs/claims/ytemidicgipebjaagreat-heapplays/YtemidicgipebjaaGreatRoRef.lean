/- The document's dict, in memory. -/
import Derived.Test.YtemidicgipebjaaGreatJoint8
import Derived.Deep.Draws
import Derived.Lib.Strings
import Derived.Test.YtemidicgipebjaaGreatJoint2
namespace Go.Proofs.YtemidicgipebjaaGreat
set_option linter.unusedSimpArgs false
set_option maxRecDepth 100000
open Go.RowKit

theorem text_ne {s t : ByteArray} (h : s ≠ t) : (s.toList == t.toList) = false := by
  rw [beq_eq_false_iff_ne, Lib.toList_data, Lib.toList_data]
  intro e
  apply h
  cases s; cases t
  simp at e
  rw [e]
/-- where a name is -/
def atN (l : List Ent) (s : ByteArray) : Option Nat := posL (l.map some) s
def atV (l : List Ent) (s : ByteArray) : Int := match atN l s with | some i => (i : Int) | none => -1
theorem atN_has (l : List Ent) (s : ByteArray) : (atN l s).isSome = hasL l s := by unfold atN; rw [posL_has, live_some]
theorem atN_at {l : List Ent} {s : ByteArray} {i : Nat} (h : atN l s = some i) : ∃ v, l[i]? = some (s, v) ∧ look l s = some v := by
  obtain ⟨v, h1, h2⟩ := posL_at h
  rw [live_some] at h2
  refine ⟨v, ?_, h2⟩
  rw [List.getElem?_map] at h1
  cases hl : l[i]? with
  | none => rw [hl] at h1; simp at h1
  | some e => rw [hl] at h1; simpa using h1
theorem atN_set {l : List Ent} {s : ByteArray} {i : Nat} (v : Vl) (h : atN l s = some i) : l.set i (s, v) = setL l s v := by
  have := (posL_set v h).1
  rw [← List.map_set, live_some, live_some] at this
  exact this
theorem atN_first : ∀ {l : List Ent} {s : ByteArray} {j : Nat}, (∀ i e, i < j → l[i]? = some e → e.1 ≠ s) → (∃ e, l[j]? = some e ∧ e.1 = s) → atN l s = some j
  | [], s, j, _, h => by simp at h
  | x :: r, s, 0, _, h => by
    have : x.1 = s := by simpa using h
    unfold atN
    simp [posL, this]
  | x :: r, s, j + 1, h1, h2 => by
    have hx : x.1 ≠ s := h1 0 x (by omega) rfl
    have ih := atN_first (l := r) (s := s) (j := j) (fun i e hi he => h1 (i + 1) e (by omega) (by simpa using he)) (by simpa using h2)
    unfold atN at *
    simp [posL, hx, ih]
theorem atN_none : ∀ {l : List Ent} {s : ByteArray}, (∀ e ∈ l, e.1 ≠ s) → atN l s = none := by
  intro l s h
  have h1 := look_none.2 h
  have h2 := atN_has l s
  unfold hasL at h2
  rw [h1] at h2
  simpa using h2

/-- the document's dict at r -/
structure RoAt (P E S : Value) (r : Nat) (nv vv : Value) (l : List Ent) (w : World) : Prop where
  blk : Blk r 86 #[P, nv, vv, E, S] w
  nam : w.ownsRow 0 9 1 nv l.length (namesC l)
  val : w.ownsRow 0 26 3 vv l.length (valsC l)
def FtO (r : Nat) (nv vv : Value) (b : Nat) : Prop := b = r ∨ nv.ownBlock = some b ∨ vv.ownBlock = some b
theorem RoAt.keep {P E S : Value} {r : Nat} {nv vv : Value} {l : List Ent} {a c : World} (h : RoAt P E S r nv vv l a) (hk : ∀ b, FtO r nv vv b → c.heap[b]? = a.heap[b]?) : RoAt P E S r nv vv l c :=
  ⟨(hk r (.inl rfl)).trans h.blk, row_keep h.nam (fun g hg => hk g (.inr (.inl hg))), row_keep h.val (fun g hg => hk g (.inr (.inr hg)))⟩
theorem RoAt.lt {P E S : Value} {r b : Nat} {nv vv : Value} {l : List Ent} {w : World} (h : RoAt P E S r nv vv l w) (hb : FtO r nv vv b) : b < w.heap.size := by
  rcases hb with rfl | hb | hb
  · exact blk_lt h.blk
  · obtain ⟨cur, hc⟩ := row_lt h.nam hb
    exact blk_lt hc
  · obtain ⟨cur, hc⟩ := row_lt h.val hb
    exact blk_lt hc
theorem RoAt.on {P E S : Value} {r : Nat} {nv vv : Value} {l : List Ent} {a c : World} (h : RoAt P E S r nv vv l a) (k : Below a.heap.size a c) : RoAt P E S r nv vv l c := h.keep fun b hb => k.block b (h.lt hb)
theorem RoAt.ne {P E S : Value} {r : Nat} {nv vv : Value} {l : List Ent} {w : World} (h : RoAt P E S r nv vv l w) : (∀ g, nv.ownBlock = some g → g ≠ r ∧ vv.ownBlock ≠ some g) ∧ ∀ g, vv.ownBlock = some g → g ≠ r ∧ nv.ownBlock ≠ some g := by
  have hb : w.heap[r]? = _ := h.blk
  have hn : ∀ g, nv.ownBlock = some g → ∃ cur, w.heap[g]? = some (.cells cur 9 (0, 0)) := fun g hg => row_lt h.nam hg
  have hv : ∀ g, vv.ownBlock = some g → ∃ cur, w.heap[g]? = some (.cells cur 26 (0, 0)) := fun g hg => row_lt h.val hg
  refine ⟨fun g hg => ⟨fun e => ?_, fun e => ?_⟩, fun g hg => ⟨fun e => ?_, fun e => ?_⟩⟩
  · obtain ⟨c, hc⟩ := hn g hg; rw [e, hb] at hc; cases hc
  · obtain ⟨c, hc⟩ := hn g hg; obtain ⟨c2, hc2⟩ := hv g e; rw [hc] at hc2; cases hc2
  · obtain ⟨c, hc⟩ := hv g hg; rw [e, hb] at hc; cases hc
  · obtain ⟨c, hc⟩ := hv g hg; obtain ⟨c2, hc2⟩ := hn g e; rw [hc] at hc2; cases hc2
theorem RoAt.cells {P E S : Value} {r : Nat} {nv vv : Value} {l : List Ent} {w : World} (h : RoAt P E S r nv vv l w) : w.cell? ⟨r, 1, none⟩ = some nv ∧ w.cell? ⟨r, 2, none⟩ = some vv :=
  ⟨by rw [blk_cell h.blk]; rfl, by rw [blk_cell h.blk]; rfl⟩
/-- a name's cell -/
theorem RoAt.name {P E S : Value} {r i : Nat} {nv vv : Value} {l : List Ent} {e : Ent} {w : World} (h : RoAt P E S r nv vv l w) (hi : l[i]? = some e) : ∃ g cap, nv = .slice (some ⟨g, 0, none⟩) l.length cap ∧ g < w.heap.size ∧ w.cell? ⟨g, i, none⟩ = some (.string e.1) := by
  have hl : i < l.length := (List.getElem?_eq_some_iff.1 hi).1
  obtain ⟨g, cap, rfl, _, hg⟩ := h.nam.form (by omega)
  exact ⟨g, cap, rfl, hg, row_cell h.nam (by simp [namesC, hi])⟩
/-- a value's cells -/
theorem RoAt.value {P E S : Value} {r i : Nat} {nv vv : Value} {l : List Ent} {e : Ent} {w : World} (h : RoAt P E S r nv vv l w) (hi : l[i]? = some e) :
    ∃ g cap, vv = .slice (some ⟨g, 0, none⟩) l.length cap ∧ g < w.heap.size ∧ w.cell? ⟨g, i * 3, none⟩ = some (.int .i64 e.2.1) ∧ w.cell? ⟨g, i * 3 + 1, none⟩ = some (.int .i64 e.2.2.1) ∧ w.cell? ⟨g, i * 3 + 2, none⟩ = some (.string e.2.2.2) ∧ ∀ j, w.frozen? ⟨g, j, none⟩ = false := by
  have hl : i < l.length := (List.getElem?_eq_some_iff.1 hi).1
  obtain ⟨g, cap, rfl, _, hg⟩ := h.val.form (by omega)
  refine ⟨g, cap, rfl, hg, row_cell h.val ?_, row_cell h.val ?_, row_cell h.val ?_, fun j => row_free h.val j⟩
  · exact valsC_at (j := 0) hi (by omega)
  · exact valsC_at (j := 1) hi (by omega)
  · exact valsC_at (j := 2) hi (by omega)

set_option maxHeartbeats 1000000 in
theorem oat_calls {P E S : Value} {r : Nat} {nv vv : Value} {l : List Ent} (w : World) (h : RoAt P E S r nv vv l w) (s : ByteArray) (hf : l.length ≤ 1000000) :
    Calls Tryz.prog 105 #[.pointer (some ⟨r, 1, none⟩), .string s] w fun e w' => e = .returned (.int .i64 (atV l s)) ∧ w' = w := by
  obtain ⟨ao, cap, rfl⟩ := row_shape h.nam
  obtain ⟨c0, c1⟩ := h.cells
  have H := hid h
  clear h
  go_enter Tryz.func105, Tryz.ntmps105
  go_wp2_with fail
  go_loopw [5] (fun i wr => ∃ j : Nat, j ≤ l.length ∧ i = .int .i64 j ∧ Hid (∀ i e, i < j → l[i]? = some e → e.1 ≠ s) ∧ wr = w) (fun i _ => l.length - (intOf i).toNat)
  case atStart => exact ⟨0, by omega, rfl, hid (fun i e hi => absurd hi (Nat.not_lt_zero _)), rfl⟩
  case round =>
    obtain ⟨j, hj, rfl, hA, rfl⟩ := hrel
    by_cases hjl : j < l.length
    · obtain ⟨e, he⟩ : ∃ e, l[j]? = some e := ⟨l[j], List.getElem?_eq_getElem hjl⟩
      obtain ⟨g, cp, hg, hgl, c2⟩ := H.out.name he
      injection hg with hg1 hg2 hg3
      subst hg1 hg3
      by_cases hes : e.1 = s
      · have HV := hid (show atV l s = (j : Int) by unfold atV; rw [atN_first hA.out ⟨e, he, hes⟩])
        rw [hes] at c2
        go_wp2_with fail
        go_ret
        exact ⟨by rw [HV.out]; rfl, rfl⟩
      · have hnb := text_ne hes
        have HA := hid (show ∀ i e, i < j + 1 → l[i]? = some e → e.1 ≠ s from fun i e' hi he' => by
          rcases Nat.lt_or_ge i j with h1 | h1
          · exact hA.out i e' h1 he'
          · have : i = j := by omega
            subst this
            rw [he] at he'
            cases he'
            exact hes)
        generalize e.1 = t at *
        clear hes hA
        go_wp2_with fail
        exact ⟨⟨j + 1, by omega, by simp, HA, trivial⟩, by simp [intOf]; omega⟩
    · have hje : j = l.length := by omega
      subst hje
      have HV := hid (show atV l s = -1 by
        unfold atV
        rw [atN_none (fun e he => by
          obtain ⟨i, hi⟩ := List.getElem?_of_mem he
          exact hA.out i e (List.getElem?_eq_some_iff.1 hi).1 hi)])
      go_wp2_with fail
      go_ret
      exact ⟨by rw [HV.out]; rfl, rfl⟩
theorem orget_calls {P E S : Value} {r : Nat} {nv vv : Value} {l : List Ent} (w : World) (h : RoAt P E S r nv vv l w) (s : ByteArray) (hf : l.length ≤ 1000000) :
    Calls Tryz.prog 72 #[.pointer (some ⟨r, 1, none⟩), .string s] w fun e w' => e = .returned (.tuple #[vlV (gotV l s), .bool (hasL l s)]) ∧ Below w.heap.size w w' := by
  have A := (Below.refl w.heap.size w).alloc (Nat.le_refl _) (Obj.cells #[.int .i64 0, .int .i64 0, .string ⟨#[]⟩] 26)
  have HA := hid (oat_calls _ (h.on A) s hf)
  obtain ⟨c0, c1⟩ := h.cells
  have hr := h.lt (.inl rfl)
  cases hat : atN l s with
  | none =>
    have hh : hasL l s = false := by rw [← atN_has, hat]; rfl
    have hlk : look l s = none := by unfold hasL at hh; simpa using hh
    rw [hh, show gotV l s = vl0 from by unfold gotV; rw [hlk]; rfl]
    rw [show atV l s = -1 from by unfold atV; rw [hat]] at HA
    clear h A
    go_enter Tryz.func72, Tryz.ntmps72
    go_wp2_with fail
    refine HA.out.mono ?_
    rintro e1 w1 ⟨rfl, rfl⟩
    go_wp2_with fail
    exact bodyPost_ret (ret_ve rfl rfl ⟨by simp [vl0], by simp [vl0], by simp [vl0]⟩) rfl ⟨rfl, (Below.refl _ _).alloc (Nat.le_refl _) _⟩
  | some i =>
    obtain ⟨u, hu, hlk⟩ := atN_at hat
    have hh : hasL l s = true := by rw [← atN_has, hat]; rfl
    rw [hh, show gotV l s = u from by unfold gotV; rw [hlk]; rfl]
    rw [show atV l s = (i : Int) from by unfold atV; rw [hat]] at HA
    obtain ⟨g, cap, rfl, hg, v0, v1, v2, _⟩ := h.value hu
    have hil : i < l.length := (List.getElem?_eq_some_iff.1 hu).1
    clear h A hu hlk hh hat
    go_enter Tryz.func72, Tryz.ntmps72
    go_wp2_with fail
    refine HA.out.mono ?_
    rintro e1 w1 ⟨rfl, rfl⟩
    go_wp2_with fail
    exact bodyPost_ret (ret_ve rfl rfl ⟨by simp, by simp, by simp⟩) rfl ⟨rfl, (Below.refl _ _).alloc (Nat.le_refl _) _⟩
theorem orkey_none {P E S : Value} {r : Nat} {nv vv : Value} {l : List Ent} (w : World) (h : RoAt P E S r nv vv l w) (i : Int) (hi : ¬ (0 ≤ i ∧ i < l.length)) :
    Calls Tryz.prog 86 #[.pointer (some ⟨r, 1, none⟩), .int .i64 i] w fun e w' => e = .returned (.tuple #[.string ⟨#[]⟩, .bool false]) ∧ w' = w := by
  obtain ⟨ao, cap, rfl⟩ := row_shape h.nam
  obtain ⟨c0, c1⟩ := h.cells
  clear h
  by_cases h0 : i < 0
  · clear hi
    go_enter Tryz.func86, Tryz.ntmps86
    go_wp2_with fail
    go_ret2
    exact ⟨rfl, rfl⟩
  · have h1 : decide (i < 0) = false := decide_eq_false h0
    have h2 : decide ((l.length : Int) ≤ i) = true := decide_eq_true (by omega)
    clear hi h0
    go_enter Tryz.func86, Tryz.ntmps86
    go_wp2_with fail
    go_ret2
    exact ⟨rfl, rfl⟩
theorem orkey_some {P E S : Value} {r i : Nat} {nv vv : Value} {l : List Ent} {x : Ent} (w : World) (h : RoAt P E S r nv vv l w) (hi : l[i]? = some x) :
    Calls Tryz.prog 86 #[.pointer (some ⟨r, 1, none⟩), .int .i64 (i : Int)] w fun e w' => e = .returned (.tuple #[.string x.1, .bool true]) ∧ w' = w := by
  obtain ⟨g, cap, rfl, hg, c2⟩ := h.name hi
  obtain ⟨c0, c1⟩ := h.cells
  have hil : i < l.length := (List.getElem?_eq_some_iff.1 hi).1
  have q2 : decide ((l.length : Int) ≤ (i : Int)) = false := decide_eq_false (by omega)
  clear h hi
  go_enter Tryz.func86, Tryz.ntmps86
  go_wp2_with fail
  go_ret2
  exact ⟨rfl, rfl⟩

end Go.Proofs.YtemidicgipebjaaGreat
