/- The resolver, in memory; what becomes of nodes, from the left on. -/
import Derived.Test.YtmihckhflbepjaaDoorScClone
namespace Go.Proofs.YtmihckhflbepjaaDoor
set_option linter.unusedSimpArgs false
open Go.RowKit

/-- what there is of functions stays -/
def Pre (fs fs' : List Fp) : Prop := ∃ r, fs' = fs ++ r
theorem Pre.refl (fs : List Fp) : Pre fs fs := ⟨[], by simp⟩
theorem Pre.trans {a b c : List Fp} (h : Pre a b) (k : Pre b c) : Pre a c := by
  obtain ⟨r, rfl⟩ := h
  obtain ⟨q, rfl⟩ := k
  exact ⟨r ++ q, by simp⟩
theorem pre_set {a b : List Fp} {x y : Fp} (h : Pre (a ++ [x]) b) : Pre a (b.set a.length y) := by
  obtain ⟨r, rfl⟩ := h
  exact ⟨y :: r, by simp⟩
mutual
theorem resN_pre {gl : List ByteArray} : ∀ (t : Nd) {lo : List ByteArray} {fs : List Fp} {q : Nd × List Fp}, resN gl t lo fs = .ok q → Pre fs q.2
  | .mk k o n s ns ks p, lo, fs, q, h => by
    rw [resN] at h
    split at h
    · split at h
      · cases h
      · cases h1 : parP p ns [] with
        | bad a b => rw [h1] at h; cases h
        | ok own1 =>
          rw [h1, Rz.bind_ok] at h
          cases h2 : letL ks own1 with
          | bad a b => rw [h2] at h; cases h
          | ok own =>
            rw [h2, Rz.bind_ok] at h
            cases h3 : resL gl ks own (fs ++ [(ns.length, own.length, [])]) with
            | bad a b => rw [h3] at h; cases h
            | ok q3 =>
              rw [h3, Rz.bind_ok] at h
              cases h
              exact pre_set (resL_pre ks h3)
    · split at h
      · split at h
        · cases h
        · cases h3 : resL gl ks lo fs with
          | bad a b => rw [h3] at h; cases h
          | ok q3 =>
            rw [h3, Rz.bind_ok] at h
            cases h
            exact resL_pre ks h3
      · cases h3 : resL gl ks lo fs with
        | bad a b => rw [h3] at h; cases h
        | ok q3 =>
          rw [h3, Rz.bind_ok] at h
          cases h
          exact resL_pre ks h3
theorem resL_pre {gl : List ByteArray} : ∀ (l : List Nd) {lo : List ByteArray} {fs : List Fp} {q : List Nd × List Fp}, resL gl l lo fs = .ok q → Pre fs q.2
  | [], lo, fs, q, h => by rw [resL] at h; cases h; exact Pre.refl _
  | x :: r, lo, fs, q, h => by
    rw [resL] at h
    cases h1 : resN gl x lo fs with
    | bad a b => rw [h1] at h; cases h
    | ok q1 =>
      rw [h1, Rz.bind_ok] at h
      cases h2 : resL gl r lo q1.2 with
      | bad a b => rw [h2] at h; cases h
      | ok q2 =>
        rw [h2, Rz.bind_ok] at h
        cases h
        exact (resN_pre x h1).trans (show Pre q1.2 q2.2 from resL_pre r h2)
end
/-- functions in a row of cells -/
def FRow (ok : Nat → Prop) (w : World) : List Fp → List Value → Prop
  | [], cs => cs = []
  | f :: r, cs => ∃ bv cs', cs = [.int .i64 (f.1 : Int), .int .i64 (f.2.1 : Int), bv] ++ cs' ∧ KidsS ok w bv f.2.2 ∧ FRow ok w r cs'
theorem frow_len {ok : Nat → Prop} {w : World} : ∀ {fs : List Fp} {cs : List Value}, FRow ok w fs cs → cs.length = fs.length * 3
  | [], cs, h => by rw [show cs = [] from h]; rfl
  | x :: r, cs, h => by
    obtain ⟨bv, cs', rfl, _, h3⟩ := h
    have := frow_len h3
    simp [this]; omega
theorem frow_keep {ok ok' : Nat → Prop} {a c : World} (hk : ∀ b, ok b → ok' b ∧ c.heap[b]? = a.heap[b]?) : ∀ {fs : List Fp} {cs : List Value}, FRow ok a fs cs → FRow ok' c fs cs
  | [], cs, h => h
  | x :: r, cs, h => by
    obtain ⟨bv, cs', e, h2, h3⟩ := h
    exact ⟨bv, cs', e, kidsS_keep hk h2, frow_keep hk h3⟩
theorem frow_snoc {ok : Nat → Prop} {w : World} {x : Fp} {bv : Value} (hx : KidsS ok w bv x.2.2) : ∀ {fs : List Fp} {cs : List Value}, FRow ok w fs cs → FRow ok w (fs ++ [x]) (cs ++ [.int .i64 (x.1 : Int), .int .i64 (x.2.1 : Int), bv])
  | [], cs, h => by rw [show cs = [] from h]; exact ⟨bv, [], by simp, hx, rfl⟩
  | y :: r, cs, h => by
    obtain ⟨bv', cs', rfl, h2, h3⟩ := h
    exact ⟨bv', cs' ++ [.int .i64 (x.1 : Int), .int .i64 (x.2.1 : Int), bv], by simp, h2, frow_snoc hx h3⟩
theorem frow_set {ok : Nat → Prop} {w : World} {b : List Nd} {bv : Value} (hx : KidsS ok w bv b) : ∀ {fs : List Fp} {cs : List Value} {i : Nat} {p l : Nat} {b0 : List Nd}, FRow ok w fs cs → fs[i]? = some (p, l, b0) → FRow ok w (fs.set i (p, l, b)) (cs.set (i * 3 + 2) bv)
  | [], cs, i, p, l, b0, h, hi => by simp at hi
  | y :: r, cs, 0, p, l, b0, h, hi => by
    obtain ⟨bv', cs', rfl, h2, h3⟩ := h
    simp at hi
    subst hi
    exact ⟨bv, cs', rfl, hx, h3⟩
  | y :: r, cs, i + 1, p, l, b0, h, hi => by
    obtain ⟨bv', cs', rfl, h2, h3⟩ := h
    have ih := frow_set hx h3 (show r[i]? = some (p, l, b0) by simpa using hi)
    refine ⟨bv', cs'.set (i * 3 + 2) bv, ?_, h2, ih⟩
    rw [show (i + 1) * 3 + 2 = i * 3 + 2 + 1 + 1 + 1 by omega]
    rfl
/-- the functions so far -/
def FnsS (ok : Nat → Prop) (w : World) (fv : Value) (fs : List Fp) : Prop := ∃ cs, w.ownsRow 0 45 3 fv fs.length cs ∧ FRow ok w fs cs ∧ ∀ g, fv.ownBlock = some g → ¬ ok g
theorem fnsS_keep {ok ok' : Nat → Prop} {a c : World} {fv : Value} {fs : List Fp} (h : FnsS ok a fv fs) (hk : ∀ b, ok b → ok' b ∧ c.heap[b]? = a.heap[b]?) (hv : ∀ g, fv.ownBlock = some g → c.heap[g]? = a.heap[g]? ∧ ¬ ok' g) : FnsS ok' c fv fs := by
  obtain ⟨cs, h1, h2, h3⟩ := h
  exact ⟨cs, row_keep h1 (fun g hg => (hv g hg).1), frow_keep hk h2, fun g hg => (hv g hg).2⟩
theorem fnsS_lt {ok : Nat → Prop} {w : World} {fv : Value} {fs : List Fp} {g : Nat} (h : FnsS ok w fv fs) (hv : fv.ownBlock = some g) : ∃ cur, Blk g 45 cur w := by
  obtain ⟨cs, h1, _⟩ := h
  exact row_lt h1 hv
theorem fnsS_shape {ok : Nat → Prop} {w : World} {fv : Value} {fs : List Fp} (h : FnsS ok w fv fs) : ∃ ao cap, fv = .slice ao fs.length cap := by
  obtain ⟨cs, h1, _⟩ := h
  exact row_shape h1
/-- the resolver at r -/
structure Rs (B r gm : Nat) (lv fv : Value) (gl lo : List ByteArray) (fs : List Fp) (ok : Nat → Prop) (w : World) : Prop where
  blk : Blk r 51 #[.map (some gm), lv, fv] w
  gs : NmAt gm gl w
  ls : LoAt lv lo w
  fn : FnsS ok w fv fs
  lt : ∀ b, ok b → b < w.heap.size ∧ b ≠ r
  lb : B ≤ r ∧ B ≤ gm ∧ (∀ b, lv = .map (some b) → B ≤ b) ∧ (∀ g, fv.ownBlock = some g → B ≤ g) ∧ ∀ b, ok b → B ≤ b
theorem Rs.keep {B r gm : Nat} {lv fv : Value} {gl lo : List ByteArray} {fs : List Fp} {ok T : Nat → Prop} {a c : World} (h : Rs B r gm lv fv gl lo fs ok a) (k : Keep T a c) (h1 : ¬ T r) (h2 : ¬ T gm) (h3 : ∀ b, lv = .map (some b) → ¬ T b) (h4 : ∀ g, fv.ownBlock = some g → ¬ T g) (h5 : ∀ b, ok b → ¬ T b) : Rs B r gm lv fv gl lo fs ok c :=
  ⟨blk_keep h.blk k h1, nmAt_keep h.gs (k.block gm (nmAt_lt h.gs) h2), loAt_keep h.ls (fun b e => by
      rcases h.ls with ⟨e2, _⟩ | ⟨b', e2, hn⟩
      · rw [e] at e2; cases e2
      · rw [e] at e2; cases e2; exact k.block b (nmAt_lt hn) (h3 b e)),
    fnsS_keep h.fn (fun b hb => ⟨hb, k.block b (h.lt b hb).1 (h5 b hb)⟩) (fun g hg => by
      obtain ⟨cur, hc⟩ := fnsS_lt h.fn hg
      obtain ⟨cs, _, _, h6⟩ := h.fn
      exact ⟨k.block g (blk_lt hc) (h4 g hg), h6 g hg⟩),
    fun b hb => ⟨Nat.lt_of_lt_of_le (h.lt b hb).1 k.size, (h.lt b hb).2⟩, h.lb⟩
theorem Rs.on {B r gm : Nat} {lv fv : Value} {gl lo : List ByteArray} {fs : List Fp} {ok : Nat → Prop} {a c : World} (h : Rs B r gm lv fv gl lo fs ok a) (k : Below a.heap.size a c) : Rs B r gm lv fv gl lo fs ok c :=
  h.keep (T := fun _ => False) (Keep.of k) (fun h => h) (fun h => h) (fun _ _ h => h) (fun _ _ h => h) (fun _ _ h => h)
/-- what a resolver may write -/
def RT (r : Nat) (fv : Value) (b : Nat) : Prop := b = r ∨ fv.ownBlock = some b
theorem rt_low {B r gm : Nat} {lv fv : Value} {gl lo : List ByteArray} {fs : List Fp} {ok : Nat → Prop} {w : World} (h : Rs B r gm lv fv gl lo fs ok w) : ∀ b, RT r fv b → B ≤ b := by
  rintro b (rfl | hb)
  · exact h.lb.1
  · exact h.lb.2.2.2.1 b hb
/-- behind a node, or nodes: all but what was made -/
structure Went (B r gm : Nat) (lv fv fv' : Value) (gl lo : List ByteArray) (fs' : List Fp) (ok okR ok' : Nat → Prop) (w w' : World) : Prop where
  rs : Rs B r gm lv fv' gl lo fs' ok' w'
  keep : Keep (RT r fv) w w'
  new : ∀ b, okR b → w.heap.size ≤ b ∧ b < w'.heap.size ∧ fv'.ownBlock ≠ some b
  old : ∀ b, ok' b → ok b ∨ w.heap.size ≤ b
  row : ∀ g, fv'.ownBlock = some g → fv.ownBlock = some g ∨ w.heap.size ≤ g
  few : fs'.length ≤ 32
/-- behind an error: what is kept, and that there are functions still -/
structure Bad (r gm : Nat) (fv : Value) (n : Nat) (w w' : World) : Prop where
  keep : Keep (RT r fv) w w'
  left : ∃ lv' fv' L cs, Blk r 51 #[.map (some gm), lv', fv'] w' ∧ n ≤ L ∧ w'.ownsRow 0 45 3 fv' L cs ∧ ∀ g, fv'.ownBlock = some g → fv.ownBlock = some g ∨ w.heap.size ≤ g
theorem Bad.past {r gm n : Nat} {fv : Value} {w a c : World} {T : Nat → Prop} (h : Bad r gm fv n w a) (k : Keep T a c) (hr : r < w.heap.size) (hT : ∀ b, T b → w.heap.size ≤ b ∧ ∃ ty cs, ty ≠ 45 ∧ Blk b ty cs a) : Bad r gm fv n w c := by
  obtain ⟨lv', fv', L, cs, h1, h2, h3, h4⟩ := h.left
  refine ⟨h.keep.trans k (fun i hi e => by have := (hT i e).1; omega), lv', fv', L, cs, blk_keep h1 k (fun e => by have := (hT r e).1; omega), h2, row_keep h3 (fun g hg => ?_), h4⟩
  obtain ⟨cur, hc⟩ := row_lt h3 hg
  refine k.block g (blk_lt hc) (fun e => ?_)
  obtain ⟨_, ty, cs2, hne, hb⟩ := hT g e
  have hc1 : a.heap[g]? = _ := hc
  have hb1 : a.heap[g]? = _ := hb
  rw [hc1] at hb1
  simp only [Option.some.injEq, Obj.cells.injEq] at hb1
  exact hne hb1.2.1.symm
theorem Bad.on {r gm n : Nat} {fv : Value} {w a c : World} (h : Bad r gm fv n w a) (k : Below a.heap.size a c) : Bad r gm fv n w c := by
  obtain ⟨lv', fv', L, cs, h1, h2, h3, h4⟩ := h.left
  refine ⟨h.keep.trans (Keep.of (S := RT r fv) k) (fun _ _ h => h), lv', fv', L, cs, blk_on h1 k, h2, row_keep h3 (fun g hg => ?_), h4⟩
  obtain ⟨cur, hc⟩ := row_lt h3 hg
  exact k.block g (blk_lt hc)
theorem Bad.before {r gm n : Nat} {fv : Value} {w a c : World} (k : Below w.heap.size w a) (h : Bad r gm fv n a c) : Bad r gm fv n w c := by
  obtain ⟨lv', fv', L, cs, h1, h2, h3, h4⟩ := h.left
  refine ⟨(Keep.of (S := RT r fv) k).trans h.keep (fun _ _ h => h), lv', fv', L, cs, h1, h2, h3, fun g hg => ?_⟩
  rcases h4 g hg with h5 | h5
  · exact .inl h5
  · exact .inr (Nat.le_trans k.size h5)
theorem Rs.bad {B r gm : Nat} {lv fv : Value} {gl lo : List ByteArray} {fs : List Fp} {ok : Nat → Prop} {w a : World} (h : Rs B r gm lv fv gl lo fs ok a) (k : Keep (RT r fv) w a) : Bad r gm fv fs.length w a := by
  obtain ⟨cs, h1, _⟩ := h.fn
  exact ⟨k, lv, fv, fs.length, cs, h.blk, Nat.le_refl _, h1, fun g hg => .inl hg⟩
theorem Went.bad {B r gm n m : Nat} {lv fv fv' : Value} {gl lo : List ByteArray} {fs' : List Fp} {ok okR ok' : Nat → Prop} {w a c : World} (h : Went B r gm lv fv fv' gl lo fs' ok okR ok' w a) (h2 : Bad r gm fv' m a c) (hn : n ≤ m) : Bad r gm fv n w c := by
  obtain ⟨lv', fv2, L, cs, h3, h4, h5, h6⟩ := h2.left
  have z1 := h.keep.size
  refine ⟨h.keep.trans h2.keep (fun i hi ht => ?_), lv', fv2, L, cs, h3, by omega, h5, fun g hg => ?_⟩
  · rcases ht with h | h7
    · exact .inl h
    · rcases h.row i h7 with h8 | h8
      · exact .inr h8
      · omega
  · rcases h6 g hg with h7 | h7
    · rcases h.row g h7 with h8 | h8
      · exact .inl h8
      · exact .inr h8
    · exact .inr (by omega)
def fltP (p e : Int) : Value := .agg #[.int .i64 p, .int .i64 e]
def ndV (t : Nd) (nv kv : Value) : Value := .agg #[.int .i64 t.kind, .int .i64 t.op, .int .i64 t.num, .string t.str, nv, kv, .int .i64 t.pl]
/-- what comes of a node -/
def NodeOut (B r gm : Nat) (lv fv : Value) (gl lo : List ByteArray) (nf : Nat) (ok : Nat → Prop) (w : World) (x : Rz (Nd × List Fp)) (e : Ending) (w' : World) : Prop :=
  match x with
  | .bad p er => e = .returned (.tuple #[bareV 0 0, fltP p er]) ∧ Bad r gm fv nf w w'
  | .ok (t, fs') => ∃ nv kv fv' okR ok', e = .returned (.tuple #[ndV t nv kv, fltP 0 0]) ∧ NdS okR w' t nv kv ∧ Went B r gm lv fv fv' gl lo fs' ok okR ok' w w'
def KidsOut (B r gm : Nat) (lv fv : Value) (gl lo : List ByteArray) (nf : Nat) (ok : Nat → Prop) (w : World) (x : Rz (List Nd × List Fp)) (e : Ending) (w' : World) : Prop :=
  match x with
  | .bad p er => e = .returned (.tuple #[.slice none 0 0, fltP p er]) ∧ Bad r gm fv nf w w'
  | .ok (l, fs') => ∃ kv fv' okR ok', e = .returned (.tuple #[kv, fltP 0 0]) ∧ KidsS okR w' kv l ∧ Went B r gm lv fv fv' gl lo fs' ok okR ok' w w'
def NodeRes (t : Nd) : Prop := ∀ (B r gm : Nat) (lv fv : Value) (gl lo : List ByteArray) (fs : List Fp) (ok : Nat → Prop) (nv kv : Value) (w : World),
  Hid (Rs B r gm lv fv gl lo fs ok w) → Hid (NdIn B w t nv kv) → B ≤ w.heap.size → smallN t = true → countN t ≤ 1000000 → fs.length ≤ 32 →
  Calls Tryd.prog 39 #[.pointer (some ⟨r, 0, none⟩), ndV t nv kv] w (NodeOut B r gm lv fv gl lo fs.length ok w (resN gl t lo fs))
def KidsRes (ks : List Nd) : Prop := ∀ (B r gm : Nat) (lv fv : Value) (gl lo : List ByteArray) (fs : List Fp) (ok : Nat → Prop) (kv : Value) (w : World),
  Hid (Rs B r gm lv fv gl lo fs ok w) → Hid (KidsIn B w kv ks) → B ≤ w.heap.size → (∀ x ∈ ks, smallN x = true) → countL ks ≤ 1000000 → fs.length ≤ 32 →
  Calls Tryd.prog 38 #[kv, .func (.func 39) #[.pointer (some ⟨r, 0, none⟩)] #[]] w (KidsOut B r gm lv fv gl lo fs.length ok w (resL gl ks lo fs))

theorem ret_s2 {fn : Func} {t u : Tmp} (h : fn.results = #[.tmp t, .cell u 53]) {tmps : Array Value} {g : Nat} {w : World} {x y : Value} (hu : tmps.getD u undef = .pointer (some ⟨g, 0, none⟩))
    (d : w.cell? ⟨g, 0, none⟩ = some x ∧ w.cell? ⟨g, 1, none⟩ = some y) :
    (results fn tmps).run Tryd.prog w = .ok (.tuple #[tmps.getD t undef, .agg #[x, y]]) w := by
  rw [Array.getD_eq_getD_getElem?] at hu
  simp [results, h, hu, go_sem, asAddr, d.1, d.2]
theorem ndS_shape {ok : Nat → Prop} {w : World} {t : Nd} {nv kv : Value} (h : NdS ok w t nv kv) : ∃ a1 c1 a2 c2, nv = .slice a1 t.names.length c1 ∧ kv = .slice a2 t.kids.length c2 := by
  obtain ⟨k, o, n, s, ns, ks, p⟩ := t
  obtain ⟨h1, h2⟩ := ndS_mk.1 h
  obtain ⟨a1, c1, e1⟩ := strsS_shape h1
  obtain ⟨a2, c2, e2⟩ := kidsS_shape h2
  exact ⟨a1, c1, a2, c2, e1, e2⟩
theorem Went.on {B r gm : Nat} {lv fv fv' : Value} {gl lo : List ByteArray} {fs' : List Fp} {ok okR ok' : Nat → Prop} {w a c : World} (h : Went B r gm lv fv fv' gl lo fs' ok okR ok' w a) (k : Below a.heap.size a c) : Went B r gm lv fv fv' gl lo fs' ok okR ok' w c :=
  ⟨h.rs.on k, h.keep.trans (T := RT r fv) (Keep.of k) (fun _ _ h => h), fun b hb => ⟨(h.new b hb).1, Nat.lt_of_lt_of_le (h.new b hb).2.1 k.size, (h.new b hb).2.2⟩, h.old, h.row, h.few⟩
theorem Went.trans {B r gm : Nat} {lv fv fv1 fv2 : Value} {gl lo : List ByteArray} {fs1 fs2 : List Fp} {ok okK ok1 okR ok2 : Nat → Prop} {w a c : World} (h : Went B r gm lv fv fv1 gl lo fs1 ok okK ok1 w a) (h2 : Went B r gm lv fv1 fv2 gl lo fs2 ok1 okR ok2 a c) : Went B r gm lv fv fv2 gl lo fs2 ok (fun b => okK b ∨ okR b) ok2 w c := by
  have z1 := h.keep.size
  have z2 := h2.keep.size
  refine ⟨h2.rs, h.keep.trans h2.keep (fun i hi ht => ?_), fun b hb => ?_, fun b hb => ?_, fun g hg => ?_, h2.few⟩
  · rcases ht with rfl | ht
    · exact .inl rfl
    · rcases h.row i ht with h3 | h3
      · exact .inr h3
      · omega
  · rcases hb with hb | hb
    · have h3 := h.new b hb
      refine ⟨h3.1, by omega, fun e => ?_⟩
      rcases h2.row b e with h4 | h4
      · exact h3.2.2 h4
      · omega
    · have h3 := h2.new b hb
      exact ⟨by omega, h3.2.1, h3.2.2⟩
  · rcases h2.old b hb with h3 | h3
    · rcases h.old b h3 with h4 | h4
      · exact .inl h4
      · exact .inr h4
    · exact .inr (by omega)
  · rcases h2.row g hg with h3 | h3
    · rcases h.row g h3 with h4 | h4
      · exact .inl h4
      · exact .inr h4
    · exact .inr (by omega)
/-- a slot of one's own, laid ahead, is written behind -/
theorem Went.slot {B r gm : Nat} {lv fv fv' : Value} {gl lo : List ByteArray} {fs fs' : List Fp} {ok okR ok' okQ T : Nat → Prop} {w w1 a c : World} (h0 : Rs B r gm lv fv gl lo fs ok w) (k1 : Below w.heap.size w w1) (h : Went B r gm lv fv fv' gl lo fs' ok okR ok' w1 a) (k : Keep T a c) (hT : ∀ b, T b → w.heap.size ≤ b ∧ b < w1.heap.size)
    (hQ : ∀ b, okQ b → w.heap.size ≤ b ∧ b < a.heap.size ∧ fv'.ownBlock ≠ some b) : Went B r gm lv fv fv' gl lo fs' ok okQ ok' w c := by
  have z1 := k1.size
  have z2 := h.keep.size
  have z3 := k.size
  refine ⟨h.rs.keep k (fun e => ?_) (fun e => ?_) (fun b e e2 => ?_) (fun g e e2 => ?_) (fun b hb e => ?_), ?_, fun b hb => ?_, fun b hb => ?_, fun g hg => ?_, h.few⟩
  · have := (hT _ e).1; have := blk_lt h0.blk; omega
  · have := (hT _ e).1; have := nmAt_lt h0.gs; omega
  · rcases h0.ls with ⟨e3, _⟩ | ⟨b', e3, hn⟩
    · rw [e] at e3; cases e3
    · rw [e] at e3; cases e3
      have := (hT _ e2).1; have := nmAt_lt hn; omega
  · have := hT _ e2
    rcases h.row g e with h3 | h3
    · obtain ⟨cur, hc⟩ := fnsS_lt h0.fn h3
      have := blk_lt hc; omega
    · omega
  · have := hT _ e
    rcases h.old b hb with h3 | h3
    · have := (h0.lt b h3).1; omega
    · omega
  · refine ((Keep.of (S := RT r fv) k1).trans h.keep (fun _ _ h => h)).trans k (fun i hi e => ?_)
    have := (hT i e).1; omega
  · have h3 := hQ b hb
    exact ⟨by omega, by omega, h3.2.2⟩
  · rcases h.old b hb with h3 | h3
    · exact .inl h3
    · exact .inr (by omega)
  · rcases h.row g hg with h3 | h3
    · exact .inl h3
    · exact .inr (by omega)
/-- a row of nodes grows beside -/
theorem Went.beside {B r gm : Nat} {lv fv fv' v : Value} {gl lo : List ByteArray} {fs' : List Fp} {ks : List Nd} {ok okR ok' okK : Nat → Prop} {w a c : World} (h : Went B r gm lv fv fv' gl lo fs' ok okR ok' w a) (hO : OutS okK a v ks) (k : a.grownBy c v.ownBlock) (h1 : ∀ g, v.ownBlock = some g → w.heap.size ≤ g ∧ ¬ ok' g) : Went B r gm lv fv fv' gl lo fs' ok okR ok' w c := by
  obtain ⟨cs, hown, _⟩ := hO
  have hty : ∀ g, v.ownBlock = some g → ∃ cur, a.heap[g]? = some (.cells cur 25 (0, 0)) := fun g hg => row_lt hown hg
  have K : Keep (fun b => v.ownBlock = some b) a c := Keep.grown k (fun b e => e)
  refine ⟨h.rs.keep K (fun e => ?_) (fun e => ?_) (fun b e e2 => ?_) (fun g e e2 => ?_) (fun b hb e => (h1 b e).2 hb), h.keep.trans K (fun i hi e => by have := (h1 i e).1; omega), fun b hb => ⟨(h.new b hb).1, Nat.lt_of_lt_of_le (h.new b hb).2.1 k.size, (h.new b hb).2.2⟩, h.old, h.row, h.few⟩
  · obtain ⟨cur, hc⟩ := hty r e
    have hb : a.heap[r]? = _ := h.rs.blk
    rw [hc] at hb; cases hb
  · obtain ⟨cur, hc⟩ := hty gm e
    obtain ⟨es, cl, hm⟩ := mapN_block h.rs.gs
    rw [hc] at hm; cases hm
  · obtain ⟨cur, hc⟩ := hty b e2
    rcases h.rs.ls with ⟨e3, _⟩ | ⟨b', e3, hn⟩
    · rw [e] at e3; cases e3
    · rw [e] at e3; cases e3
      obtain ⟨es, cl, hm⟩ := mapN_block hn
      rw [hc] at hm; cases hm
  · obtain ⟨cur, hc⟩ := hty g e2
    obtain ⟨cur2, hc2⟩ := fnsS_lt h.rs.fn e
    unfold Blk at hc2
    rw [hc] at hc2; cases hc2
theorem out_fn_ne {ok ok' : Nat → Prop} {w : World} {v fv : Value} {ks : List Nd} {fs : List Fp} {g : Nat} (h : OutS ok w v ks) (hf : FnsS ok' w fv fs) (hg : v.ownBlock = some g) : fv.ownBlock ≠ some g := fun e => by
  obtain ⟨cs, hown, _⟩ := h
  obtain ⟨cur, hc⟩ := row_lt hown hg
  obtain ⟨cur2, hc2⟩ := fnsS_lt hf e
  unfold Blk at hc hc2
  rw [hc] at hc2; cases hc2

set_option maxHeartbeats 4000000 in
theorem each_of (ks : List Nd) (ih : ∀ x ∈ ks, NodeRes x) : KidsRes ks := by
  intro B r gm lv fv gl lo fs ok kv w hRs hN hB hsm hc h32
  obtain ⟨ka, kc, rfl, _⟩ := kidsIn_cases hN.out
  have hlen := countL_len ks
  have A1 := (Below.refl w.heap.size w).alloc (Nat.le_refl _) (Obj.cells #[.int .i64 0, .int .i64 0] 53)
  have b1 := blk_new w 53 #[.int .i64 0, .int .i64 0]
  have HR1 := hid (hRs.out.on A1)
  have HN1 := hid (kidsIn_on (A1.mono hB) hN.out)
  have HA1 := hid A1
  have HR := hid hRs.out
  have HIH := hid ih
  have HSM := hid hsm
  generalize hW1 : w.alloc (Obj.cells #[.int .i64 0, .int .i64 0] 53) = w1 at *
  have hz1 : w1.heap.size = w.heap.size + 1 := by rw [← hW1]; simp
  have HB1 := hid b1
  clear hRs hN A1 b1 ih hsm
  go_enter Tryd.func38, Tryd.ntmps38
  go_wp2_with fail
  go_loopw [6, 13] (fun v i wr => ∃ (j : Nat) (ks' : List Nd) (fs' : List Fp) (fv' : Value) (okK okF : Nat → Prop), j ≤ ks.length ∧ i = .int .i64 j ∧ Hid (ks'.length = j ∧ fs.length ≤ fs'.length) ∧ Hid (resL gl ks lo fs = (resL gl (ks.drop j) lo fs').bind fun q => .ok (ks' ++ q.1, q.2)) ∧
    Hid (OutS okK wr v ks') ∧ Hid (Went B r gm lv fv fv' gl lo fs' ok okK okF w1 wr) ∧ Hid (∀ g, v.ownBlock = some g → w1.heap.size ≤ g ∧ ¬ okF g ∧ fv'.ownBlock ≠ some g)) (fun _ i _ => ks.length - (intOf i).toNat)
  case atStart =>
    refine ⟨0, [], fs, fv, fun _ => False, ok, by omega, rfl, hid ⟨rfl, Nat.le_refl _⟩, hid ?_, hid (outS_nil _ _), hid ⟨HR1.out, Keep.refl _ _, fun b h => h.elim, fun b h => .inl h, fun g h => .inl h, h32⟩, hid (fun g h => by simp [Value.ownBlock] at h)⟩
    rw [List.drop_zero]
    cases resL gl ks lo fs with
    | ok a => rfl
    | bad p e => rfl
  case round =>
    obtain ⟨j, ks', fs', fv', okK, okF, hj, rfl, hjl', hP, hO, hWt, hV⟩ := hrel
    have hzr := hWt.out.keep.size
    have hrw : r < w1.heap.size := blk_lt HR1.out.blk
    have y1 := blk_keep HB1.out hWt.out.keep (fun e => by
      rcases e with e | e
      · have := blk_lt HR.out.blk; omega
      · obtain ⟨cur, hc⟩ := fnsS_lt HR.out.fn e; have := blk_lt hc; omega)
    obtain ⟨va, vc, rfl⟩ := outS_shape hO.out
    have hlowW := hWt.out.keep.below (B := B) (by omega) (rt_low HR.out)
    by_cases hjl : j < ks.length
    · obtain ⟨x, hx⟩ : ∃ x, ks[j]? = some x := ⟨ks[j], List.getElem?_eq_getElem hjl⟩
      have HNr := kidsIn_on hlowW HN1.out
      obtain ⟨b, off, a1, c1, a2, c2, rfl, hb, hat, hin⟩ := kid_node HNr hx
      have hxm := List.mem_of_getElem? hx
      have hsx := HSM.out x hxm
      have hcx := Nat.le_trans (count_mem hxm) hc
      have hihx := HIH.out x hxm
      have hdr : ks.drop j = x :: ks.drop (j + 1) := by rw [List.drop_eq_getElem_cons hjl]; congr 1; exact (List.getElem?_eq_some_iff.1 hx).2
      have HP2 := hid (hP.out.trans (by rw [hdr, resL] : (resL gl (ks.drop j) lo fs').bind (fun q => .ok (ks' ++ q.1, q.2)) = ((resN gl x lo fs').bind fun q => (resL gl (ks.drop (j + 1)) lo q.2).bind fun q2 => .ok (q.1 :: q2.1, q2.2)).bind fun q => .ok (ks' ++ q.1, q.2)))
      obtain ⟨k, o, n, s, ns, kk, p⟩ := x
      obtain ⟨d0, d1, d2, d3, d4, d5, d6⟩ := hat
      simp only [Nd.kind, Nd.op, Nd.num, Nd.str, Nd.pl, Nd.names, Nd.kids] at d0 d1 d2 d3 d4 d5 d6 hin
      have hbw : b < wr.heap.size := by omega
      have AX := (Below.refl wr.heap.size wr).alloc (Nat.le_refl _) (Obj.cells #[.int .i64 k, .int .i64 o, .int .i64 n, .string s, .slice a1 ns.length c1, .slice a2 kk.length c2, .int .i64 p] 25)
      have hzx : (wr.alloc (Obj.cells #[.int .i64 k, .int .i64 o, .int .i64 n, .string s, .slice a1 ns.length c1, .slice a2 kk.length c2, .int .i64 p] 25)).heap.size = wr.heap.size + 1 := by simp
      have WX := hWt.out.on AX
      have HC := hid (hihx B r gm lv fv' gl lo fs' okF _ _ (wr.alloc (Obj.cells #[.int .i64 k, .int .i64 o, .int .i64 n, .string s, .slice a1 ns.length c1, .slice a2 kk.length c2, .int .i64 p] 25)) (hid WX.rs) (hid (ndIn_on (AX.mono (by omega)) _ _ _ hin)) (by omega) hsx hcx hWt.out.few)
      have HWX := hid WX
      have HOX := hid (outS_keep (ok' := okK) hO.out (fun b hb => ⟨hb, AX.block b (hWt.out.new b hb).2.1⟩) (fun g hg => ⟨AX.block g (outS_lt hO.out hg), by obtain ⟨_, _, _, h⟩ := hO.out; exact h g hg⟩))
      have HBX := hid (blk_on y1 AX)
      unfold ndV at HC
      simp only [Nd.kind, Nd.op, Nd.num, Nd.str, Nd.pl, Nd.names, Nd.kids] at HC
      clear HNr hin AX WX y1 hP hdr hx hlowW
      cases hrn : resN gl (.mk k o n s ns kk p) lo fs' with
      | bad fp fe =>
        rw [hrn] at HC HP2
        rw [Rz.bind_bad, Rz.bind_bad] at HP2
        have hfe : (fe != 0) = true := by rw [bne_iff_ne]; exact resN_bad _ hrn
        unfold NodeOut fltP bareV at HC
        simp only at HC
        clear hrn
        go_wp2_with fail
        refine HC.out.mono ?_
        rintro e3 w3 ⟨rfl, k3⟩
        have bb3 : Bad r gm fv fs.length w1 w3 := HWX.out.bad k3 hjl'.out.2
        have kk3 := bb3.keep
        have A4 := ((Below.refl w3.heap.size w3).alloc (Nat.le_refl _) (Obj.cells #[.int .i64 0, .int .i64 0, .int .i64 0, .string ⟨#[]⟩, .slice none 0 0, .slice none 0 0, .int .i64 0] 25)).alloc (by simp) (Obj.cells #[.int .i64 fp, .int .i64 fe] 53)
        have K4 := hid (kk3.trans (Keep.of (S := RT r fv) A4) (fun _ _ h => h))
        have HBB := hid (bb3.on A4)
        have hz3 := kk3.size
        clear k3 kk3 bb3 HC A4
        go_wp2_with fail
        refine (found_calls fp fe _).mono ?_
        rintro e9 w9 ⟨rfl, b9⟩
        have K9 := hid (K4.out.trans (Keep.of (S := RT r fv) b9) (fun _ _ h => h))
        have HB9 := hid (HBB.out.on b9)
        have u2 := blk_keep HB1.out K9.out (fun e => by
          rcases e with e | e
          · have := blk_lt HR.out.blk; omega
          · obtain ⟨cur, hc⟩ := fnsS_lt HR.out.fn e; have := blk_lt hc; omega)
        have t0 : w9.cell? ⟨w3.heap.size + 1, 0, none⟩ = some (.int .i64 fp) := (b9.cell (p := ⟨w3.heap.size + 1, 0, none⟩) (by simp)).trans (by go_simp)
        have t1 : w9.cell? ⟨w3.heap.size + 1, 1, none⟩ = some (.int .i64 fe) := (b9.cell (p := ⟨w3.heap.size + 1, 1, none⟩) (by simp)).trans (by go_simp)
        have q0 : w9.cell? ⟨w.heap.size, 0, none⟩ = some (.int .i64 0) := by rw [blk_cell u2]; rfl
        have q1 : w9.cell? ⟨w.heap.size, 1, none⟩ = some (.int .i64 0) := by rw [blk_cell u2]; rfl
        have r0 : w9.frozen? ⟨w.heap.size, 0, none⟩ = false := blk_free u2 0
        have r1 : w9.frozen? ⟨w.heap.size, 1, none⟩ = false := blk_free u2 1
        have HU2 := hid u2
        clear b9 u2
        go_wp2_with fail
        go_region
        all_goals
          go_wp2_with fail
          have KS := (Keep.set (S := fun b => b = w.heap.size) rfl w9 0 (.int .i64 fp)).trans (Keep.set (S := fun b => b = w.heap.size) rfl (w9.setCell ⟨w.heap.size, 0, none⟩ (.int .i64 fp)) 1 (.int .i64 fe)) (fun _ _ h => h)
          refine bodyPost_ret (ret_s2 (g := w.heap.size) (x := .int .i64 fp) (y := .int .i64 fe) rfl rfl ⟨by go_simp, by go_simp⟩) rfl ?_
          rw [HP2.out]
          refine ⟨rfl, ?_⟩
          exact ((Bad.before HA1.out HB9.out).past KS (blk_lt HR.out.blk) (fun b e => ⟨by omega, 53, #[.int .i64 0, .int .i64 0], by decide, by rw [show b = w.heap.size from e]; exact HU2.out⟩)).on (Below.refl _ _).drew
      | ok q =>
        obtain ⟨t', fs2⟩ := q
        have HLN := hid (show fs'.length ≤ fs2.length by obtain ⟨q, hq⟩ := resN_pre _ hrn; simp only at hq; rw [hq, List.length_append]; omega)
        rw [hrn] at HC HP2
        rw [Rz.bind_ok] at HP2
        unfold NodeOut fltP ndV at HC
        simp only at HC
        clear hrn
        go_wp2_with fail
        refine HC.out.mono ?_
        rintro e3 w3 ⟨nv, kv, fv2, okR, ok2, rfl, n3, g3⟩
        obtain ⟨b1, e1, b2, e2, rfl, rfl⟩ := ndS_shape n3
        have WT := HWX.out.trans g3
        have hz3 := g3.keep.size
        have hz4 := WT.keep.size
        have O3 : OutS (fun b => okK b ∨ okR b) w3 (.slice va ks'.length vc) ks' := outS_keep HOX.out (fun b hb => ⟨.inl hb, g3.keep.block b (by have := (HWX.out.new b hb).2.1; omega) (fun e => by
            rcases e with e | e
            · have := (HWX.out.new b hb).1; omega
            · exact (HWX.out.new b hb).2.2 e)⟩) (fun g hg => ⟨g3.keep.block g (outS_lt HOX.out hg) (fun e => by
            rcases e with e | e
            · have := (hV.out g hg).1; omega
            · exact (hV.out g hg).2.2 e), fun h => by
            rcases h with h | h
            · obtain ⟨_, _, _, h6⟩ := HOX.out; exact h6 g hg h
            · have := (g3.new g h).1; have := outS_lt HOX.out hg; omega⟩)
        have V3 : ∀ g, (Value.slice va ks'.length vc).ownBlock = some g → w1.heap.size ≤ g ∧ ¬ ok2 g ∧ g < w3.heap.size := fun g hg => ⟨(hV.out g hg).1, fun h => by
            rcases g3.old g h with h | h
            · exact (hV.out g hg).2.1 h
            · have := outS_lt HOX.out hg; omega, by have := outS_lt HOX.out hg; omega⟩
        obtain ⟨k2, o2, n2, s2, ns2, ks2, p2⟩ := t'
        simp only [Nd.kind, Nd.op, Nd.num, Nd.str, Nd.pl, Nd.names, Nd.kids]
        have A4 := ((Below.refl w3.heap.size w3).alloc (Nat.le_refl _) (Obj.cells #[.int .i64 k2, .int .i64 o2, .int .i64 n2, .string s2, .slice b1 ns2.length e1, .slice b2 ks2.length e2, .int .i64 p2] 25)).alloc (by simp) (Obj.cells #[.int .i64 0, .int .i64 0] 53)
        have HA4 := hid A4
        have HWT := hid WT
        have HO3 := hid O3
        have HV3 := hid V3
        have HN3 := hid (ndS_mono (ok' := fun b => okK b ∨ okR b) (fun b hb => .inr hb) n3)
        clear n3 g3 WT O3 V3 HC A4
        go_wp2_with fail
        refine (found_calls 0 0 _).mono ?_
        rintro e9 w9 ⟨rfl, b9⟩
        have A9 := below_on HA4.out b9
        have hz9 := A9.size
        have HW9 := hid (HWT.out.on A9)
        have HO9 := hid (outS_keep (ok' := fun b => okK b ∨ okR b) HO3.out (fun b hb => ⟨hb, A9.block b ((HWT.out.new b hb).2.1)⟩) (fun g hg => ⟨A9.block g (HV3.out g hg).2.2, by obtain ⟨_, _, _, h⟩ := HO3.out; exact h g hg⟩))
        have HN9 := hid (ndS_keep (ok' := fun b => okK b ∨ okR b) (fun b hb => ⟨hb, A9.block b ((HWT.out.new b hb).2.1)⟩) _ _ _ HN3.out)
        have c0 : w9.cell? ⟨w3.heap.size, 0, none⟩ = some (.int .i64 k2) := (b9.cell (p := ⟨w3.heap.size, 0, none⟩) (by simp; omega)).trans (by go_simp)
        have c1' : w9.cell? ⟨w3.heap.size, 1, none⟩ = some (.int .i64 o2) := (b9.cell (p := ⟨w3.heap.size, 1, none⟩) (by simp; omega)).trans (by go_simp)
        have c2' : w9.cell? ⟨w3.heap.size, 2, none⟩ = some (.int .i64 n2) := (b9.cell (p := ⟨w3.heap.size, 2, none⟩) (by simp; omega)).trans (by go_simp)
        have c3 : w9.cell? ⟨w3.heap.size, 3, none⟩ = some (.string s2) := (b9.cell (p := ⟨w3.heap.size, 3, none⟩) (by simp; omega)).trans (by go_simp)
        have c4 : w9.cell? ⟨w3.heap.size, 4, none⟩ = some (.slice b1 ns2.length e1) := (b9.cell (p := ⟨w3.heap.size, 4, none⟩) (by simp; omega)).trans (by go_simp)
        have c5 : w9.cell? ⟨w3.heap.size, 5, none⟩ = some (.slice b2 ks2.length e2) := (b9.cell (p := ⟨w3.heap.size, 5, none⟩) (by simp; omega)).trans (by go_simp)
        have c6 : w9.cell? ⟨w3.heap.size, 6, none⟩ = some (.int .i64 p2) := (b9.cell (p := ⟨w3.heap.size, 6, none⟩) (by simp; omega)).trans (by go_simp)
        have HUP := hid (show ∀ b, (okK b ∨ okR b) → b < w9.heap.size from fun b hb => Nat.lt_of_lt_of_le (HWT.out.new b hb).2.1 hz9)
        have hlk : ks'.length ≤ 1000000 := by have := hjl'.out.1; omega
        clear b9 A9 HA4 HN3 HOX HWX
        go_wp2_with (first | (at_builtin; refine node_app rfl _ _ rfl (fun b => okK b ∨ okR b) ks' (.mk k2 o2 n2 s2 ns2 ks2 p2) _ _ _ _ _ (by rfl) HO9.out HN9.out HUP.out _ (by rfl) (by simp) hlk ?_; intro g5 cp5 w5 hO5 hg5 hat5 hlt5; have O5 := hid hO5; have W5 := hid (HW9.out.beside HO9.out hg5 (fun g hg => ⟨(HV3.out g hg).1, (HV3.out g hg).2.1⟩)); have V5 := hid (show ∀ g, (Value.slice (some ⟨g5, 0, none⟩) (ks'.length + 1) cp5).ownBlock = some g → w1.heap.size ≤ g ∧ ¬ ok2 g ∧ fv2.ownBlock ≠ some g from fun g hg => ⟨(by simp [Value.ownBlock] at hg; subst hg; rcases hat5 with h | h; exact (HV3.out _ h).1; omega), (by simp [Value.ownBlock] at hg; subst hg; rcases hat5 with h | h; exact (HV3.out _ h).2.1; exact fun h2 => by have := (HW9.out.rs.lt _ h2).1; omega), out_fn_ne hO5 W5.out.rs.fn hg⟩); clear hO5 hg5 hat5 hlt5) | fail)
        refine ⟨⟨j + 1, ks' ++ [.mk k2 o2 n2 s2 ns2 ks2 p2], fs2, fv2, _, ok2, by omega, by simp, hid ⟨by rw [List.length_append, hjl'.out.1]; rfl, Nat.le_trans hjl'.out.2 HLN.out⟩, hid (HP2.out.trans ?_), O5, W5, V5⟩, by simp [intOf]; omega⟩
        cases resL gl (ks.drop (j + 1)) lo fs2 with
        | ok a => simp [Rz.bind]
        | bad p e => rfl
    · have hje : j = ks.length := by omega
      subst hje
      have HP2 := hid (hP.out.trans (by rw [List.drop_length, resL, Rz.bind_ok, List.append_nil] : (resL gl (ks.drop ks.length) lo fs').bind (fun q => .ok (ks' ++ q.1, q.2)) = .ok (ks', fs')))
      have z0 : wr.cell? ⟨w.heap.size, 0, none⟩ = some (.int .i64 0) := by rw [blk_cell y1]; rfl
      have z1 : wr.cell? ⟨w.heap.size, 1, none⟩ = some (.int .i64 0) := by rw [blk_cell y1]; rfl
      have f0 : wr.frozen? ⟨w.heap.size, 0, none⟩ = false := blk_free y1 0
      have f1 : wr.frozen? ⟨w.heap.size, 1, none⟩ = false := blk_free y1 1
      clear hP y1 hlowW
      go_wp2_with fail
      have KS := (Keep.set (S := fun b => b = w.heap.size) rfl wr 0 (.int .i64 0)).trans (Keep.set (S := fun b => b = w.heap.size) rfl (wr.setCell ⟨w.heap.size, 0, none⟩ (.int .i64 0)) 1 (.int .i64 0)) (fun _ _ h => h)
      refine bodyPost_ret (ret_s2 (g := w.heap.size) (x := .int .i64 0) (y := .int .i64 0) rfl rfl ⟨by go_simp, by go_simp⟩) rfl ?_
      rw [HP2.out]
      have hall : ∀ b, (okK b ∨ (Value.slice va ks'.length vc).ownBlock = some b) → w1.heap.size ≤ b ∧ b < wr.heap.size ∧ fv'.ownBlock ≠ some b := fun b hb => by
        rcases hb with hb | hb
        · exact hWt.out.new b hb
        · exact ⟨(hV.out b hb).1, outS_lt hO.out hb, (hV.out b hb).2.2⟩
      refine ⟨_, fv', fun b => okK b ∨ (Value.slice va ks'.length vc).ownBlock = some b, okF, rfl, kidsS_keep (fun b hb => ⟨hb, KS.block b (hall b hb).2.1 (fun e => by have := (hall b hb).1; omega)⟩) (outS_kids hO.out), ?_⟩
      exact Went.slot HR.out HA1.out hWt.out KS (fun b e => by omega) (fun b hb => ⟨by have := (hall b hb).1; omega, (hall b hb).2⟩)

end Go.Proofs.YtmihckhflbepjaaDoor
