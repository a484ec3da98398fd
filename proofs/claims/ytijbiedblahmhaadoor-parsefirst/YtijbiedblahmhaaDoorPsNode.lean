/- Nodes that the parser makes, in memory. -/
import Derived.Test.YtijbiedblahmhaaDoorJoint4
namespace Go.Proofs.YtijbiedblahmhaaDoor
open Go.RowKit

def StrsW (ok : Nat → Prop) (v : Value) (l : List ByteArray) (w : World) : Prop :=
  (∃ ao cap, v = .slice ao 0 cap ∧ l = []) ∨ ∃ b off cap, v = .slice (some ⟨b, off, none⟩) l.length cap ∧ ok b ∧ StrsAt b off l w ∧ l.length ≤ cap
/-- a name, a get and an index have no room behind their kids -/
def Tight (k : Int) (n : Nat) (kv : Value) : Prop := k = 5 ∨ k = 13 ∨ k = 14 → ∃ ao, kv = .slice ao n n
mutual
/-- a node whose names and kids lie in such blocks -/
def NdW (ok : Nat → Prop) (w : World) : Nd → Value → Value → Prop
  | .mk k _ _ _ ns ks _, nv, kv => Tight k ks.length kv ∧ StrsW ok nv ns w ∧ ((∃ ao cap, kv = .slice ao 0 cap ∧ ks = []) ∨ ∃ b off cap, kv = .slice (some ⟨b, off, none⟩) ks.length cap ∧ ok b ∧ NdsW ok w b ks off ∧ ks.length ≤ cap)
def NdsW (ok : Nat → Prop) (w : World) (b : Nat) : List Nd → Nat → Prop
  | [], _ => True
  | .mk k op n s ns ks p :: r, off => (∃ nv kv, NodeAt b off k op n s nv kv p w ∧ NdW ok w (.mk k op n s ns ks p) nv kv) ∧ NdsW ok w b r (off + 7)
end
def KidsW (ok : Nat → Prop) (w : World) (kv : Value) (ks : List Nd) : Prop :=
  (∃ ao cap, kv = .slice ao 0 cap ∧ ks = []) ∨ ∃ b off cap, kv = .slice (some ⟨b, off, none⟩) ks.length cap ∧ ok b ∧ NdsW ok w b ks off ∧ ks.length ≤ cap
theorem ndW_mk {ok : Nat → Prop} {w : World} {k o n : Int} {s : ByteArray} {ns : List ByteArray} {ks : List Nd} {p : Int} {nv kv : Value} : NdW ok w (.mk k o n s ns ks p) nv kv ↔ Tight k ks.length kv ∧ StrsW ok nv ns w ∧ KidsW ok w kv ks := by
  rw [NdW]; rfl
theorem cell_eq {a c : World} {g i : Nat} {v : Value} (h : c.heap[g]? = a.heap[g]?) (hc : a.cell? ⟨g, i, none⟩ = some v) : c.cell? ⟨g, i, none⟩ = some v := (World.cell?_of_block (w := a) h).trans hc
theorem strsW_keep {ok ok' : Nat → Prop} {a c : World} (hk : ∀ b, ok b → ok' b ∧ c.heap[b]? = a.heap[b]?) {v : Value} {l : List ByteArray} (h : StrsW ok v l a) : StrsW ok' v l c := by
  rcases h with h | ⟨b, off, cap, h1, h2, h3, h4⟩
  · exact .inl h
  · exact .inr ⟨b, off, cap, h1, (hk b h2).1, fun i hi => cell_eq (hk b h2).2 (h3 i hi), h4⟩
mutual
theorem ndW_keep {ok ok' : Nat → Prop} {a c : World} (hk : ∀ b, ok b → ok' b ∧ c.heap[b]? = a.heap[b]?) : ∀ (t : Nd) (nv kv : Value), NdW ok a t nv kv → NdW ok' c t nv kv
  | .mk _ _ _ _ ns ks _, nv, kv, h => by
    rw [NdW] at h ⊢
    refine ⟨h.1, strsW_keep hk h.2.1, ?_⟩
    rcases h.2.2 with h2 | ⟨b, off, cap, e, hb, h3, h4⟩
    · exact .inl h2
    · exact .inr ⟨b, off, cap, e, (hk b hb).1, ndsW_keep hk hb ks off h3, h4⟩
theorem ndsW_keep {ok ok' : Nat → Prop} {a c : World} (hk : ∀ b, ok b → ok' b ∧ c.heap[b]? = a.heap[b]?) {b : Nat} (hb : ok b) : ∀ (ks : List Nd) (off : Nat), NdsW ok a b ks off → NdsW ok' c b ks off
  | [], _, _ => by rw [NdsW]; trivial
  | .mk k op n s ns ks p :: r, off, h => by
    rw [NdsW] at h ⊢
    obtain ⟨⟨nv, kv, h1, h2⟩, h3⟩ := h
    obtain ⟨x0, x1, x2, x3, x4, x5, x6⟩ := h1
    have e := (hk b hb).2
    exact ⟨⟨nv, kv, ⟨cell_eq e x0, cell_eq e x1, cell_eq e x2, cell_eq e x3, cell_eq e x4, cell_eq e x5, cell_eq e x6⟩, ndW_keep hk _ _ _ h2⟩, ndsW_keep hk hb r _ h3⟩
end
theorem kidsW_keep {ok ok' : Nat → Prop} {a c : World} (hk : ∀ b, ok b → ok' b ∧ c.heap[b]? = a.heap[b]?) {kv : Value} {ks : List Nd} (h : KidsW ok a kv ks) : KidsW ok' c kv ks := by
  rcases h with h2 | ⟨b, off, cap, e, hb, h3, h4⟩
  · exact .inl h2
  · exact .inr ⟨b, off, cap, e, (hk b hb).1, ndsW_keep hk hb ks off h3, h4⟩
mutual
theorem ndW_in {ok : Nat → Prop} {w : World} {B : Nat} (hk : ∀ b, ok b → b < B) : ∀ (t : Nd) (nv kv : Value), NdW ok w t nv kv → NdIn B w t nv kv
  | .mk _ _ _ _ ns ks _, nv, kv, h => by
    rw [NdW] at h
    rw [NdIn]
    refine ⟨?_, ?_⟩
    · rcases h.2.1 with h1 | ⟨b, off, cap, e, hb, h3, h4⟩
      · exact .inl h1
      · exact .inr ⟨b, off, cap, e, hk b hb, h3, h4⟩
    · rcases h.2.2 with h2 | ⟨b, off, cap, e, hb, h3, h4⟩
      · exact .inl h2
      · exact .inr ⟨b, off, cap, e, hk b hb, ndsW_in hk ks off h3, h4⟩
theorem ndsW_in {ok : Nat → Prop} {w : World} {B : Nat} (hk : ∀ b, ok b → b < B) {b : Nat} : ∀ (ks : List Nd) (off : Nat), NdsW ok w b ks off → NdsAt B w b ks off
  | [], _, _ => by rw [NdsAt]; trivial
  | .mk k op n s ns ks p :: r, off, h => by
    rw [NdsW] at h
    rw [NdsAt]
    obtain ⟨⟨nv, kv, h1, h2⟩, h3⟩ := h
    exact ⟨⟨nv, kv, h1, ndW_in hk _ _ _ h2⟩, ndsW_in hk r _ h3⟩
end

/-- blocks of one's own, from lo on -/
def Own (lo : Nat) (w : World) (b : Nat) : Prop := lo ≤ b ∧ b < w.heap.size
def NdR (lo : Nat) (w : World) (t : Nd) (nv kv : Value) : Prop := NdW (Own lo w) w t nv kv
def KdR (lo : Nat) (w : World) (kv : Value) (ks : List Nd) : Prop := KidsW (Own lo w) w kv ks
def StR (lo : Nat) (w : World) (nv : Value) (ns : List ByteArray) : Prop := StrsW (Own lo w) nv ns w
/-- from lo on all is as it was -/
structure Aft (lo : Nat) (a c : World) : Prop where
  size : a.heap.size ≤ c.heap.size
  block : ∀ k, lo ≤ k → k < a.heap.size → c.heap[k]? = a.heap[k]?
theorem aft_but {P lo : Nat} {a c : World} (h : But P a c) (hp : P < lo) : Aft lo a c := ⟨h.size, fun k h1 h2 => h.block k h2 (by omega)⟩
theorem aft_below {lo : Nat} {a c : World} (h : Below a.heap.size a c) : Aft lo a c := ⟨h.size, fun k _ h2 => h.block k h2⟩
theorem aft_set {lo g i : Nat} {a : World} {v : Value} (h : g < lo) : Aft lo a (a.setCell ⟨g, i, none⟩ v) := ⟨by simp [World.setCell], fun k h1 _ => Below.heap_setCell _ _ _ _ (by simp; omega)⟩
theorem aft_trans {lo : Nat} {a b c : World} (h : Aft lo a b) (k : Aft lo b c) : Aft lo a c := ⟨Nat.le_trans h.size k.size, fun i h1 h2 => (k.block i h1 (Nat.lt_of_lt_of_le h2 h.size)).trans (h.block i h1 h2)⟩
theorem own_keep {lo lo' : Nat} {a c : World} (h : Aft lo a c) (hl : lo' ≤ lo) : ∀ b, Own lo a b → Own lo' c b ∧ c.heap[b]? = a.heap[b]? := fun b hb => ⟨⟨by have := hb.1; omega, Nat.lt_of_lt_of_le hb.2 h.size⟩, h.block b hb.1 hb.2⟩
theorem ndR_aft {lo : Nat} {a c : World} (h : Aft lo a c) {t : Nd} {nv kv : Value} (hn : NdR lo a t nv kv) : NdR lo c t nv kv := ndW_keep (own_keep h (Nat.le_refl _)) _ _ _ hn
theorem kdR_aft {lo : Nat} {a c : World} (h : Aft lo a c) {kv : Value} {ks : List Nd} (hn : KdR lo a kv ks) : KdR lo c kv ks := kidsW_keep (own_keep h (Nat.le_refl _)) hn
theorem stR_aft {lo : Nat} {a c : World} (h : Aft lo a c) {kv : Value} {ks : List ByteArray} (hn : StR lo a kv ks) : StR lo c kv ks := strsW_keep (own_keep h (Nat.le_refl _)) hn
theorem ndR_low {lo lo' : Nat} {a : World} (h : lo' ≤ lo) {t : Nd} {nv kv : Value} (hn : NdR lo a t nv kv) : NdR lo' a t nv kv := ndW_keep (own_keep ⟨Nat.le_refl _, fun _ _ _ => rfl⟩ h) _ _ _ hn
theorem kdR_low {lo lo' : Nat} {a : World} (h : lo' ≤ lo) {kv : Value} {ks : List Nd} (hn : KdR lo a kv ks) : KdR lo' a kv ks := kidsW_keep (own_keep ⟨Nat.le_refl _, fun _ _ _ => rfl⟩ h) hn
theorem stR_low {lo lo' : Nat} {a : World} (h : lo' ≤ lo) {kv : Value} {ks : List ByteArray} (hn : StR lo a kv ks) : StR lo' a kv ks := strsW_keep (own_keep ⟨Nat.le_refl _, fun _ _ _ => rfl⟩ h) hn
theorem ndR_in {lo : Nat} {w : World} {t : Nd} {nv kv : Value} (h : NdR lo w t nv kv) : NdIn w.heap.size w t nv kv := ndW_in (fun _ hb => hb.2) _ _ _ h
theorem ndR_mk1 {lo : Nat} {w : World} {k o n : Int} {s : ByteArray} {ns : List ByteArray} {ks : List Nd} {p : Int} {nv kv : Value} (h : NdR lo w (.mk k o n s ns ks p) nv kv) : StR lo w nv ns ∧ KdR lo w kv ks := (ndW_mk.1 h).2
theorem ndR_mk2 {lo : Nat} {w : World} {k o n : Int} {s : ByteArray} {ns : List ByteArray} {ks : List Nd} {p : Int} {nv kv : Value} (h : StR lo w nv ns ∧ KdR lo w kv ks) (ht : Tight k ks.length kv := by first | exact fun h => absurd h (by decide) | exact fun _ => ⟨_, rfl⟩) : NdR lo w (.mk k o n s ns ks p) nv kv := ndW_mk.2 ⟨ht, h⟩
theorem st_nil {lo : Nat} {w : World} {ao : Option Addr} {cap : Nat} : StR lo w (.slice ao 0 cap) [] := .inl ⟨_, _, rfl, rfl⟩
theorem kd_nil {lo : Nat} {w : World} {ao : Option Addr} {cap : Nat} : KdR lo w (.slice ao 0 cap) [] := .inl ⟨_, _, rfl, rfl⟩
theorem ndR_shape {lo : Nat} {w : World} {t : Nd} {nv kv : Value} (h : NdR lo w t nv kv) : ∃ a1 c1 a2 c2, nv = .slice a1 t.names.length c1 ∧ kv = .slice a2 t.kids.length c2 := ndIn_shape (ndR_in h)

/-- a node as a value; its cells -/
def ndv (t : Nd) (nv kv : Value) : Value := .agg #[.int .i64 t.kind, .int .i64 t.op, .int .i64 t.num, .string t.str, nv, kv, .int .i64 t.pl]
def ndc (t : Nd) (nv kv : Value) : Array Value := #[.int .i64 t.kind, .int .i64 t.op, .int .i64 t.num, .string t.str, nv, kv, .int .i64 t.pl]
/-- one node, two, three in a new block -/
theorem nds_one {ok : Nat → Prop} {w : World} {g : Nat} {T : TypeId} {cs : Array Value} {off : Nat} {x : Nd} {nv kv : Value} (hb : Blk g T cs w) (hx : NdW ok w x nv kv) (r : List Nd) (hr : NdsW ok w g r (off + 7))
    (h0 : cs[off]? = some (.int .i64 x.kind)) (h1 : cs[off + 1]? = some (.int .i64 x.op)) (h2 : cs[off + 2]? = some (.int .i64 x.num)) (h3 : cs[off + 3]? = some (.string x.str)) (h4 : cs[off + 4]? = some nv) (h5 : cs[off + 5]? = some kv) (h6 : cs[off + 6]? = some (.int .i64 x.pl)) :
    NdsW ok w g (x :: r) off := by
  obtain ⟨k, o, n, s, ns, ks, p⟩ := x
  rw [NdsW]
  exact ⟨⟨nv, kv, ⟨(blk_cell hb _).trans h0, (blk_cell hb _).trans h1, (blk_cell hb _).trans h2, (blk_cell hb _).trans h3, (blk_cell hb _).trans h4, (blk_cell hb _).trans h5, (blk_cell hb _).trans h6⟩, hx⟩, hr⟩
theorem kids_1 {ok : Nat → Prop} {w : World} {g : Nat} {T : TypeId} {x : Nd} {nv kv : Value} (hg : ok g) (hb : Blk g T (ndc x nv kv) w) (hx : NdW ok w x nv kv) : KidsW ok w (.slice (some ⟨g, 0, none⟩) 1 1) [x] :=
  .inr ⟨g, 0, 1, rfl, hg, nds_one hb hx [] (by rw [NdsW]; trivial) rfl rfl rfl rfl rfl rfl rfl, Nat.le_refl _⟩
theorem kids_2 {ok : Nat → Prop} {w : World} {g : Nat} {T : TypeId} {x y : Nd} {nv kv nv' kv' : Value} (hg : ok g) (hb : Blk g T (ndc x nv kv ++ ndc y nv' kv') w) (hx : NdW ok w x nv kv) (hy : NdW ok w y nv' kv') : KidsW ok w (.slice (some ⟨g, 0, none⟩) 2 2) [x, y] :=
  .inr ⟨g, 0, 2, rfl, hg, nds_one hb hx [y] (nds_one hb hy [] (by rw [NdsW]; trivial) rfl rfl rfl rfl rfl rfl rfl) rfl rfl rfl rfl rfl rfl rfl, Nat.le_refl _⟩
theorem kids_3 {ok : Nat → Prop} {w : World} {g : Nat} {T : TypeId} {x y z : Nd} {nv kv nv' kv' nv'' kv'' : Value} (hg : ok g) (hb : Blk g T (ndc x nv kv ++ ndc y nv' kv' ++ ndc z nv'' kv'') w) (hx : NdW ok w x nv kv) (hy : NdW ok w y nv' kv') (hz : NdW ok w z nv'' kv'') : KidsW ok w (.slice (some ⟨g, 0, none⟩) 3 3) [x, y, z] := by
  have h3 : NdsW ok w g [z] 14 := nds_one hb hz [] (by rw [NdsW]; trivial) (by simp [ndc]) (by simp [ndc]) (by simp [ndc]) (by simp [ndc]) (by simp [ndc]) (by simp [ndc]) (by simp [ndc])
  have h2 : NdsW ok w g [y, z] 7 := nds_one hb hy [z] h3 (by simp [ndc]) (by simp [ndc]) (by simp [ndc]) (by simp [ndc]) (by simp [ndc]) (by simp [ndc]) (by simp [ndc])
  have h1 : NdsW ok w g [x, y, z] 0 := nds_one hb hx [y, z] h2 (by simp [ndc]) (by simp [ndc]) (by simp [ndc]) (by simp [ndc]) (by simp [ndc]) (by simp [ndc]) (by simp [ndc])
  exact .inr ⟨g, 0, 3, rfl, hg, h1, Nat.le_refl _⟩

/-- seven cells are written -/
def put7w (w : World) (g : Nat) (a b c d e f p : Value) : World := ((((((w.setCell ⟨g, 0, none⟩ a).setCell ⟨g, 1, none⟩ b).setCell ⟨g, 2, none⟩ c).setCell ⟨g, 3, none⟩ d).setCell ⟨g, 4, none⟩ e).setCell ⟨g, 5, none⟩ f).setCell ⟨g, 6, none⟩ p
theorem put7_blk {w : World} {g : Nat} {T : TypeId} {a' b' c' d' e' f' p' : Value} (h : Blk g T #[a', b', c', d', e', f', p'] w) (a b c d e f p : Value) : Blk g T #[a, b, c, d, e, f, p] (put7w w g a b c d e f p) := by
  have h1 := blk_set (blk_set (blk_set (blk_set (blk_set (blk_set (blk_set h 0 a) 1 b) 2 c) 3 d) 4 e) 5 f) 6 p
  unfold put7w
  simpa using h1
theorem put7_aft {lo g : Nat} (w : World) (h : g < lo) (a b c d e f p : Value) : Aft lo w (put7w w g a b c d e f p) :=
  aft_trans (aft_trans (aft_trans (aft_trans (aft_trans (aft_trans (aft_set h) (aft_set h)) (aft_set h)) (aft_set h)) (aft_set h)) (aft_set h)) (aft_set h)
theorem But.setNew {P : Nat} {a c : World} (h : But P a c) {g i : Nat} (hg : a.heap.size ≤ g) (v : Value) : But P a (c.setCell ⟨g, i, none⟩ v) :=
  ⟨h.os, h.tape, h.output, by simpa [World.setCell] using h.size, fun k h1 h2 => (Below.heap_setCell _ _ _ _ (by simp; omega)).trans (h.block k h1 h2)⟩
theorem put7_but {P : Nat} {a c : World} (h : But P a c) {g : Nat} (hg : a.heap.size ≤ g) (x b d y e f p : Value) : But P a (put7w c g x b d y e f p) :=
  ((((((h.setNew hg _).setNew hg _).setNew hg _).setNew hg _).setNew hg _).setNew hg _).setNew hg _
theorem pst_set {P : Nat} {L l : List Tok} {w : World} (h : PSt P L w l) {g i : Nat} (hg : P < g) (v : Value) : PSt P L (w.setCell ⟨g, i, none⟩ v) l := by
  have hlt := h.lt
  obtain ⟨R, cap, h1, h2, h3, h4⟩ := h.mem
  refine ⟨h.ok, h.suf, h.ne, ok_on h.sg ((Below.refl P w).setCell (p := ⟨g, i, none⟩) (Nat.le_of_lt hg) v), R, cap, h1, h2, ?_, (Below.heap_setCell _ _ _ _ (by simp; omega)).trans h4⟩
  intro j hj
  obtain ⟨x1, x2, x3, x4⟩ := h3 j hj
  have e : (w.setCell ⟨g, i, none⟩ v).heap[R]? = w.heap[R]? := Below.heap_setCell _ _ _ _ (by simp; omega)
  exact ⟨cell_eq e x1, cell_eq e x2, cell_eq e x3, cell_eq e x4⟩
theorem put7_pst {P : Nat} {L l : List Tok} {w : World} (h : PSt P L w l) {g : Nat} (hg : P < g) (a b c d e f p : Value) : PSt P L (put7w w g a b c d e f p) l :=
  pst_set (pst_set (pst_set (pst_set (pst_set (pst_set (pst_set h hg a) hg b) hg c) hg d) hg e) hg f) hg p

/-! the same for any choice of blocks -/
def OwnO (ok : Nat → Prop) (w : World) (b : Nat) : Prop := ok b ∧ b < w.heap.size
def NdO (ok : Nat → Prop) (w : World) (t : Nd) (nv kv : Value) : Prop := NdW (OwnO ok w) w t nv kv
def KdO (ok : Nat → Prop) (w : World) (kv : Value) (ks : List Nd) : Prop := KidsW (OwnO ok w) w kv ks
structure AftO (ok : Nat → Prop) (a c : World) : Prop where
  size : a.heap.size ≤ c.heap.size
  block : ∀ k, ok k → k < a.heap.size → c.heap[k]? = a.heap[k]?
theorem aftO_but {P : Nat} {ok : Nat → Prop} {a c : World} (h : But P a c) (hp : ¬ ok P) : AftO ok a c := ⟨h.size, fun k h1 h2 => h.block k h2 (fun e => hp (e ▸ h1))⟩
theorem aftO_below {ok : Nat → Prop} {a c : World} (h : Below a.heap.size a c) : AftO ok a c := ⟨h.size, fun k _ h2 => h.block k h2⟩
theorem aftO_set {ok : Nat → Prop} {g i : Nat} {a : World} {v : Value} (h : ¬ ok g) : AftO ok a (a.setCell ⟨g, i, none⟩ v) := ⟨by simp [World.setCell], fun k h1 _ => Below.heap_setCell _ _ _ _ (fun e => h (by simp at e; exact e ▸ h1))⟩
theorem aftO_trans {ok : Nat → Prop} {a b c : World} (h : AftO ok a b) (k : AftO ok b c) : AftO ok a c := ⟨Nat.le_trans h.size k.size, fun i h1 h2 => (k.block i h1 (Nat.lt_of_lt_of_le h2 h.size)).trans (h.block i h1 h2)⟩
theorem put7_aftO {ok : Nat → Prop} {g : Nat} (w : World) (h : ¬ ok g) (a b c d e f p : Value) : AftO ok w (put7w w g a b c d e f p) :=
  aftO_trans (aftO_trans (aftO_trans (aftO_trans (aftO_trans (aftO_trans (aftO_set h) (aftO_set h)) (aftO_set h)) (aftO_set h)) (aftO_set h)) (aftO_set h)) (aftO_set h)
theorem ndO_aft {ok : Nat → Prop} {a c : World} (h : AftO ok a c) {t : Nd} {nv kv : Value} (hn : NdO ok a t nv kv) : NdO ok c t nv kv :=
  ndW_keep (fun b hb => ⟨⟨hb.1, Nat.lt_of_lt_of_le hb.2 h.size⟩, h.block b hb.1 hb.2⟩) _ _ _ hn
theorem kdO_aft {ok : Nat → Prop} {a c : World} (h : AftO ok a c) {kv : Value} {ks : List Nd} (hn : KdO ok a kv ks) : KdO ok c kv ks :=
  kidsW_keep (fun b hb => ⟨⟨hb.1, Nat.lt_of_lt_of_le hb.2 h.size⟩, h.block b hb.1 hb.2⟩) hn
theorem ndO_of {ok : Nat → Prop} {lo : Nat} {a : World} {t : Nd} {nv kv : Value} (hn : NdR lo a t nv kv) (h : ∀ b, lo ≤ b → b < a.heap.size → ok b) : NdO ok a t nv kv :=
  ndW_keep (fun b hb => ⟨⟨h b hb.1 hb.2, hb.2⟩, rfl⟩) _ _ _ hn
theorem ndR_of {ok : Nat → Prop} {lo : Nat} {a : World} {t : Nd} {nv kv : Value} (hn : NdO ok a t nv kv) (h : ∀ b, ok b → lo ≤ b) : NdR lo a t nv kv :=
  ndW_keep (fun b hb => ⟨⟨h b hb.1, hb.2⟩, rfl⟩) _ _ _ hn
theorem ndO_mk2 {ok : Nat → Prop} {w : World} {k o n : Int} {s : ByteArray} {ns : List ByteArray} {ks : List Nd} {p : Int} {nv kv : Value} (h : StrsW (OwnO ok w) nv ns w ∧ KdO ok w kv ks) (ht : Tight k ks.length kv := by first | exact fun h => absurd h (by decide) | exact fun _ => ⟨_, rfl⟩) : NdO ok w (.mk k o n s ns ks p) nv kv := ndW_mk.2 ⟨ht, h⟩
theorem ndO_shape {ok : Nat → Prop} {w : World} {t : Nd} {nv kv : Value} (h : NdO ok w t nv kv) : ∃ a1 c1 a2 c2, nv = .slice a1 t.names.length c1 ∧ kv = .slice a2 t.kids.length c2 := ndR_shape (ndR_of (lo := 0) h (fun _ _ => Nat.zero_le _))
theorem blk_put7 {w : World} {g h : Nat} {T : TypeId} {cs : Array Value} (H : Blk h T cs w) (hne : h ≠ g) (a b c d e f p : Value) : Blk h T cs (put7w w g a b c d e f p) :=
  ((put7_aftO (ok := fun k => k = h) w (fun e => hne e.symm) a b c d e f p).block h rfl (blk_lt H)).trans H
/-- what comes of reading -/
def Reads (P : Nat) (L : List Tok) (w : World) (out : PR) (e : Ending) (w' : World) : Prop :=
  match out with
  | .ok t _ l => (∃ nv kv, e = .returned (ndv t nv kv) ∧ NdR w.heap.size w' t nv kv) ∧ PSt P L w' l ∧ But P w w'
  | .bad l => e = gaveUp ∧ PSt P L w' l ∧ But P w w'

end Go.Proofs.YtijbiedblahmhaaDoor
