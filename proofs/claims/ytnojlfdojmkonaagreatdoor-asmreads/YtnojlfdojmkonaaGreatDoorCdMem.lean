/- Codes and programs in memory. -/
import Derived.Test.YtnojlfdojmkonaaGreatDoorJoint1
import Derived.Test.YtnojlfdojmkonaaGreatDoorMapG
namespace Go.Proofs.YtnojlfdojmkonaaGreatDoor
open Go.RowKit

theorem cellB {B : Nat} {p : Addr} {x : Value} {a c : World} (q : Below B a c) (hb : p.block < B) (h : a.cell? p = some x) : c.cell? p = some x := (q.cell (p := p) hb).trans h
def InAt (b o : Nat) (x : In) (w : World) : Prop := w.cell? ⟨b, o, none⟩ = some (.int .i64 x.1) ∧ w.cell? ⟨b, o + 1, none⟩ = some (.int .i64 x.2.1) ∧ w.cell? ⟨b, o + 2, none⟩ = some (.int .i64 x.2.2)
/-- instructions, in a block below B -/
def InsIn (B : Nat) (w : World) (v : Value) (is : List In) : Prop :=
  (∃ ao cap, v = .slice ao 0 cap ∧ is = []) ∨ ∃ b off cap, v = .slice (some ⟨b, off, none⟩) is.length cap ∧ b < B ∧ ∀ (i : Nat) x, is[i]? = some x → InAt b (off + i * 3) x w
theorem insIn_on {B : Nat} {v : Value} {is : List In} {a c : World} (h : InsIn B a v is) (q : Below B a c) : InsIn B c v is := by
  rcases h with h | ⟨b, off, cap, h1, h2, h3⟩
  · exact .inl h
  · exact .inr ⟨b, off, cap, h1, h2, fun i x hi => ⟨cellB q h2 (h3 i x hi).1, cellB q h2 (h3 i x hi).2.1, cellB q h2 (h3 i x hi).2.2⟩⟩
theorem insIn_mono {B C : Nat} {v : Value} {is : List In} {w : World} (h : InsIn B w v is) (hBC : B ≤ C) : InsIn C w v is := by
  rcases h with h | ⟨b, off, cap, h1, h2, h3⟩
  · exact .inl h
  · exact .inr ⟨b, off, cap, h1, by omega, h3⟩
theorem insIn_shape {B : Nat} {v : Value} {is : List In} {w : World} (h : InsIn B w v is) : ∃ ao cap, v = .slice ao is.length cap := by
  rcases h with ⟨ao, cap, e, rfl⟩ | ⟨b, off, cap, e, _⟩
  · exact ⟨ao, cap, e⟩
  · exact ⟨_, cap, e⟩
theorem insIn_at {B : Nat} {ao : Option Addr} {cap i : Nat} {is : List In} {x : In} {w : World} (h : InsIn B w (.slice ao is.length cap) is) (hi : is[i]? = some x) : ∃ b off, ao = some ⟨b, off, none⟩ ∧ b < B ∧ InAt b (off + i * 3) x w := by
  rcases h with ⟨ao', cap', e, rfl⟩ | ⟨b, off, cap', e, hb, h⟩
  · simp at hi
  · injection e with e1
    subst e1
    exact ⟨b, off, rfl, hb, h i x hi⟩
def CdAt (B b o : Nat) (c : Cd) (w : World) : Prop := ∃ iv, w.cell? ⟨b, o, none⟩ = some (.int .i64 c.p) ∧ w.cell? ⟨b, o + 1, none⟩ = some (.int .i64 c.l) ∧ w.cell? ⟨b, o + 2, none⟩ = some (.int .i64 c.s) ∧ w.cell? ⟨b, o + 3, none⟩ = some (.int .i64 c.d) ∧ w.cell? ⟨b, o + 4, none⟩ = some iv ∧ InsIn B w iv c.ins
theorem cdAt_on {B b o : Nat} {c : Cd} {u w : World} (h : CdAt B b o c u) (hb : b < B) (q : Below B u w) : CdAt B b o c w := by
  obtain ⟨iv, h0, h1, h2, h3, h4, h5⟩ := h
  exact ⟨iv, cellB q hb h0, cellB q hb h1, cellB q hb h2, cellB q hb h3, cellB q hb h4, insIn_on h5 q⟩
/-- codes, in blocks below B -/
def CdsIn (B : Nat) (w : World) (v : Value) (cs : List Cd) : Prop :=
  (∃ ao cap, v = .slice ao 0 cap ∧ cs = []) ∨ ∃ b off cap, v = .slice (some ⟨b, off, none⟩) cs.length cap ∧ b < B ∧ ∀ (i : Nat) c, cs[i]? = some c → CdAt B b (off + i * 5) c w
theorem cdsIn_on {B : Nat} {v : Value} {cs : List Cd} {a c : World} (h : CdsIn B a v cs) (q : Below B a c) : CdsIn B c v cs := by
  rcases h with h | ⟨b, off, cap, h1, h2, h3⟩
  · exact .inl h
  · exact .inr ⟨b, off, cap, h1, h2, fun i f hi => cdAt_on (h3 i f hi) h2 q⟩
theorem cdsIn_mono {B C : Nat} {v : Value} {cs : List Cd} {w : World} (h : CdsIn B w v cs) (hBC : B ≤ C) : CdsIn C w v cs := by
  rcases h with h | ⟨b, off, cap, h1, h2, h3⟩
  · exact .inl h
  · exact .inr ⟨b, off, cap, h1, by omega, fun i f hi => by
      obtain ⟨iv, a0, a1, a2, a3, a4, a5⟩ := h3 i f hi
      exact ⟨iv, a0, a1, a2, a3, a4, insIn_mono a5 hBC⟩⟩
theorem cdsIn_shape {B : Nat} {v : Value} {cs : List Cd} {w : World} (h : CdsIn B w v cs) : ∃ ao cap, v = .slice ao cs.length cap := by
  rcases h with ⟨ao, cap, e, rfl⟩ | ⟨b, off, cap, e, _⟩
  · exact ⟨ao, cap, e⟩
  · exact ⟨_, cap, e⟩
theorem cdsIn_at {B : Nat} {ao : Option Addr} {cap i : Nat} {cs : List Cd} {c : Cd} {w : World} (h : CdsIn B w (.slice ao cs.length cap) cs) (hi : cs[i]? = some c) : ∃ b off, ao = some ⟨b, off, none⟩ ∧ b < B ∧ CdAt B b (off + i * 5) c w := by
  rcases h with ⟨ao', cap', e, rfl⟩ | ⟨b, off, cap', e, hb, h⟩
  · simp at hi
  · injection e with e1
    subst e1
    exact ⟨b, off, rfl, hb, h i c hi⟩
/-- strings, in a block below B -/
def PlIn (B : Nat) (w : World) (v : Value) (ss : List ByteArray) : Prop :=
  (∃ ao cap, v = .slice ao 0 cap ∧ ss = []) ∨ ∃ b off cap, v = .slice (some ⟨b, off, none⟩) ss.length cap ∧ b < B ∧ ∀ (i : Nat) s, ss[i]? = some s → w.cell? ⟨b, off + i, none⟩ = some (.string s)
theorem plIn_on {B : Nat} {v : Value} {ss : List ByteArray} {a c : World} (h : PlIn B a v ss) (q : Below B a c) : PlIn B c v ss := by
  rcases h with h | ⟨b, off, cap, h1, h2, h3⟩
  · exact .inl h
  · exact .inr ⟨b, off, cap, h1, h2, fun i f hi => cellB q h2 (h3 i f hi)⟩
theorem plIn_mono {B C : Nat} {v : Value} {ss : List ByteArray} {w : World} (h : PlIn B w v ss) (hBC : B ≤ C) : PlIn C w v ss := by
  rcases h with h | ⟨b, off, cap, h1, h2, h3⟩
  · exact .inl h
  · exact .inr ⟨b, off, cap, h1, by omega, h3⟩
theorem plIn_shape {B : Nat} {v : Value} {ss : List ByteArray} {w : World} (h : PlIn B w v ss) : ∃ ao cap, v = .slice ao ss.length cap := by
  rcases h with ⟨ao, cap, e, rfl⟩ | ⟨b, off, cap, e, _⟩
  · exact ⟨ao, cap, e⟩
  · exact ⟨_, cap, e⟩
theorem plIn_at {B : Nat} {ao : Option Addr} {cap i : Nat} {ss : List ByteArray} {s : ByteArray} {w : World} (h : PlIn B w (.slice ao ss.length cap) ss) (hi : ss[i]? = some s) : ∃ b off, ao = some ⟨b, off, none⟩ ∧ b < B ∧ w.cell? ⟨b, off + i, none⟩ = some (.string s) := by
  rcases h with ⟨ao', cap', e, rfl⟩ | ⟨b, off, cap', e, hb, h⟩
  · simp at hi
  · injection e with e1
    subst e1
    exact ⟨b, off, rfl, hb, h i s hi⟩
/-- numbers, in a block below B -/
def NsIn (B : Nat) (w : World) (v : Value) (xs : List Int) : Prop :=
  (∃ ao cap, v = .slice ao 0 cap ∧ xs = []) ∨ ∃ b off cap, v = .slice (some ⟨b, off, none⟩) xs.length cap ∧ b < B ∧ ∀ (i : Nat) x, xs[i]? = some x → w.cell? ⟨b, off + i, none⟩ = some (.int .i64 x)
theorem nsIn_on {B : Nat} {v : Value} {xs : List Int} {a c : World} (h : NsIn B a v xs) (q : Below B a c) : NsIn B c v xs := by
  rcases h with h | ⟨b, off, cap, h1, h2, h3⟩
  · exact .inl h
  · exact .inr ⟨b, off, cap, h1, h2, fun i f hi => cellB q h2 (h3 i f hi)⟩
theorem nsIn_mono {B C : Nat} {v : Value} {xs : List Int} {w : World} (h : NsIn B w v xs) (hBC : B ≤ C) : NsIn C w v xs := by
  rcases h with h | ⟨b, off, cap, h1, h2, h3⟩
  · exact .inl h
  · exact .inr ⟨b, off, cap, h1, by omega, h3⟩
theorem nsIn_shape {B : Nat} {v : Value} {xs : List Int} {w : World} (h : NsIn B w v xs) : ∃ ao cap, v = .slice ao xs.length cap := by
  rcases h with ⟨ao, cap, e, rfl⟩ | ⟨b, off, cap, e, _⟩
  · exact ⟨ao, cap, e⟩
  · exact ⟨_, cap, e⟩
theorem nsIn_at {B : Nat} {ao : Option Addr} {cap i : Nat} {xs : List Int} {x : Int} {w : World} (h : NsIn B w (.slice ao xs.length cap) xs) (hi : xs[i]? = some x) : ∃ b off, ao = some ⟨b, off, none⟩ ∧ b < B ∧ w.cell? ⟨b, off + i, none⟩ = some (.int .i64 x) := by
  rcases h with ⟨ao', cap', e, rfl⟩ | ⟨b, off, cap', e, hb, h⟩
  · simp at hi
  · injection e with e1
    subst e1
    exact ⟨b, off, rfl, hb, h i x hi⟩
theorem nsIn_row {g cap n : Nat} {xs : List Int} {w : World} (hx : xs.length = n) (h : w.ownsRow 0 3 1 (.slice (some ⟨g, 0, none⟩) n cap) n (xs.map (Value.int .i64))) : NsIn w.heap.size w (.slice (some ⟨g, 0, none⟩) n cap) xs := by
  obtain ⟨cur, hc⟩ := row_lt h rfl
  exact .inr ⟨g, 0, cap, by rw [hx], blk_lt hc, fun i x hi => by
    rw [Nat.zero_add]
    exact row_cell h (by rw [List.getElem?_map, hi]; rfl)⟩
theorem nsIn_blk {g n : Nat} {xs : List Int} {w : World} (hx : xs.length = n) (h : Blk g 3 (xs.map (Value.int .i64)).toArray w) : NsIn w.heap.size w (.slice (some ⟨g, 0, none⟩) n n) xs :=
  .inr ⟨g, 0, n, by rw [hx], blk_lt h, fun i x hi => by
    rw [Nat.zero_add, blk_cell h]
    simp [hi]⟩
theorem blk_cellZ {g : Nat} {T : TypeId} {cs : Array Value} {w : World} (h : Blk g T cs w) (i : Nat) {u : Value} (hu : cs[i]? = some u) : w.cell? ⟨g, i, none⟩ = some u := by rw [blk_cell h]; exact hu
theorem box_below (w : World) (o : Obj) : Below w.heap.size w (w.alloc o) := (Below.refl _ _).alloc (Nat.le_refl _) o

end Go.Proofs.YtnojlfdojmkonaaGreatDoor
