/- Shapes in memory. -/
import Derived.Test.YtimhgbcanmgajaaGreatJoint4
import Derived.BigQuiet
namespace Go.Proofs.YtimhgbcanmgajaaGreat
set_option linter.unusedSimpArgs false
open Go.RowKit

theorem underMi : Tryz.prog.underlying 251 = some (.map 3 3) := by kernel_rfl

/-- the map of the shapes behind one: none, till there is one -/
def NextAt (L : List Sh) (s : Sh) (w : World) : Option Nat → Prop
  | none => ∀ x, nextF L s x = none
  | some m => ∃ c, c ≤ L.length ∧ MapI m (nextF L s) c w
/-- a shape in memory -/
structure OneAt (L : List Sh) (s : Sh) (g : Nat) (nm : Option Nat) (w : World) : Prop where
  blk : Blk g 266 #[.int .i64 s.1, .int .i64 (parS L s : Int), .int .i64 (lastS s), .map nm] w
  next : NextAt L s w nm
def rowL (g : Nat → Nat) (n : Nat) : List Value := (List.range n).map (fun i => Value.pointer (some ⟨g i, 0, none⟩))
def upd {α : Type} (g : Nat → α) (n : Nat) (a : α) (i : Nat) : α := if i = n then a else g i
theorem upd_at {α : Type} (g : Nat → α) (n : Nat) (a : α) : upd g n a n = a := by simp [upd]
theorem upd_ne {α : Type} (g : Nat → α) {n i : Nat} (a : α) (h : i ≠ n) : upd g n a i = g i := by simp [upd, h]
theorem rowL_len (g : Nat → Nat) (n : Nat) : (rowL g n).length = n := by simp [rowL]
theorem rowL_at (g : Nat → Nat) {n i : Nat} (h : i < n) : (rowL g n)[i]? = some (.pointer (some ⟨g i, 0, none⟩)) := by simp [rowL, h]
theorem rowL_succ (g : Nat → Nat) (n a : Nat) : rowL (upd g n a) (n + 1) = rowL g n ++ [.pointer (some ⟨a, 0, none⟩)] := by
  unfold rowL
  rw [List.range_succ, List.map_append]
  congr 1
  · apply List.map_congr_left
    intro i hi
    have : i < n := List.mem_range.1 hi
    rw [upd_ne g a (by omega)]
  · simp [upd_at]
/-- all shapes in memory -/
structure TrAt (M : Nat) (L : List Sh) (t m : Nat) (v : Value) (g : Nat → Nat) (nm : Nat → Option Nat) (w : World) : Prop where
  wf : WfS M L
  blk : Blk t 254 #[.int .i64 (M : Int), .map (some m), v] w
  row : w.ownsRow 0 264 1 v L.length (rowL g L.length)
  root : ∃ c, c ≤ L.length ∧ MapI m (rootF L) c w
  one : ∀ (i : Nat) (s : Sh), L[i]? = some s → OneAt L s (g i) (nm i) w
  gi : ∀ i j, i < L.length → j < L.length → g i = g j → i = j
  mi : ∀ i j k, i < L.length → j < L.length → nm i = some k → nm j = some k → i = j
  mr : ∀ i, i < L.length → nm i ≠ some m
/-- where they lie -/
def FtS (n t m : Nat) (v : Value) (g : Nat → Nat) (nm : Nat → Option Nat) (b : Nat) : Prop := b = t ∨ b = m ∨ v.ownBlock = some b ∨ ∃ i, i < n ∧ (b = g i ∨ nm i = some b)
theorem nextAt_keep {L : List Sh} {s : Sh} {nm : Option Nat} {a c : World} (h : NextAt L s a nm) (hk : ∀ m, nm = some m → c.heap[m]? = a.heap[m]?) : NextAt L s c nm := by
  cases nm with
  | none => exact h
  | some m =>
    obtain ⟨k, h1, h2⟩ := h
    exact ⟨k, h1, mapI_keep h2 (hk m rfl)⟩
theorem OneAt.keep {L : List Sh} {s : Sh} {g : Nat} {nm : Option Nat} {a c : World} (h : OneAt L s g nm a) (hg : c.heap[g]? = a.heap[g]?) (hk : ∀ m, nm = some m → c.heap[m]? = a.heap[m]?) : OneAt L s g nm c :=
  ⟨hg.trans h.blk, nextAt_keep h.next hk⟩
theorem ex_get {L : List Sh} {i : Nat} (h : i < L.length) : ∃ s, L[i]? = some s := ⟨L[i], List.getElem?_eq_getElem h⟩
theorem TrAt.keep {M : Nat} {L : List Sh} {t m : Nat} {v : Value} {g : Nat → Nat} {nm : Nat → Option Nat} {a c : World} (h : TrAt M L t m v g nm a) (hk : ∀ b, FtS L.length t m v g nm b → c.heap[b]? = a.heap[b]?) : TrAt M L t m v g nm c := by
  obtain ⟨k, hk1, hk2⟩ := h.root
  exact ⟨h.wf, (hk t (.inl rfl)).trans h.blk, row_keep h.row (fun g hg => hk g (.inr (.inr (.inl hg)))), ⟨k, hk1, mapI_keep hk2 (hk m (.inr (.inl rfl)))⟩,
    fun i s hi => (h.one i s hi).keep (hk _ (.inr (.inr (.inr ⟨i, lt_of_get hi, .inl rfl⟩)))) (fun b hb => hk b (.inr (.inr (.inr ⟨i, lt_of_get hi, .inr hb⟩)))), h.gi, h.mi, h.mr⟩
theorem TrAt.lt {M : Nat} {L : List Sh} {t m b : Nat} {v : Value} {g : Nat → Nat} {nm : Nat → Option Nat} {w : World} (h : TrAt M L t m v g nm w) (hb : FtS L.length t m v g nm b) : b < w.heap.size := by
  rcases hb with rfl | rfl | hb | ⟨i, hi, hb⟩
  · exact blk_lt h.blk
  · obtain ⟨_, _, hm⟩ := h.root
    exact mapI_lt hm
  · obtain ⟨cur, hc⟩ := row_lt h.row hb
    exact blk_lt hc
  · obtain ⟨s, hs⟩ := ex_get hi
    have ho := h.one i s hs
    rcases hb with rfl | hb
    · exact blk_lt ho.blk
    · have := ho.next
      rw [hb] at this
      obtain ⟨_, _, hm⟩ := this
      exact mapI_lt hm
theorem TrAt.on {M : Nat} {L : List Sh} {t m : Nat} {v : Value} {g : Nat → Nat} {nm : Nat → Option Nat} {a c : World} (h : TrAt M L t m v g nm a) (k : Below a.heap.size a c) : TrAt M L t m v g nm c := h.keep fun b hb => k.block b (h.lt hb)
theorem blk_type {g : Nat} {T T' : TypeId} {cs cs' : Array Value} {w : World} (h : Blk g T cs w) (h' : Blk g T' cs' w) : T = T' := by
  unfold Blk at h h'
  rw [h] at h'
  injection h' with h'
  injection h'
theorem blk_map {g c : Nat} {T : TypeId} {cs : Array Value} {f : Int → Option Int} {w : World} (h : Blk g T cs w) (h' : MapI g f c w) : False := by
  obtain ⟨es, clock, hm⟩ := mapI_block h'
  unfold Blk at h
  rw [h] at hm
  cases hm
/-- blocks of one sort are none of another -/
theorem TrAt.apart {M : Nat} {L : List Sh} {t m : Nat} {v : Value} {g : Nat → Nat} {nm : Nat → Option Nat} {w : World} (h : TrAt M L t m v g nm w) :
    t ≠ m ∧ (∀ b, v.ownBlock = some b → b ≠ t ∧ b ≠ m) ∧ (∀ i, i < L.length → g i ≠ t ∧ g i ≠ m ∧ v.ownBlock ≠ some (g i) ∧ nm i ≠ some t ∧ (∀ b, v.ownBlock = some b → nm i ≠ some b) ∧ ∀ j, j < L.length → nm j ≠ some (g i)) := by
  obtain ⟨c, _, hm⟩ := h.root
  have hmap : ∀ i b, i < L.length → nm i = some b → ∃ f c, MapI b f c w := fun i b hi hb => by
    obtain ⟨s, hs⟩ := ex_get hi
    have := (h.one i s hs).next
    rw [hb] at this
    obtain ⟨c, _, hm⟩ := this
    exact ⟨_, c, hm⟩
  refine ⟨fun e => blk_map (e ▸ h.blk) hm, fun b hb => ?_, fun i hi => ?_⟩
  · obtain ⟨cur, hc⟩ := row_lt h.row hb
    exact ⟨fun e => absurd (blk_type (e ▸ hc) h.blk) (by decide), fun e => blk_map (e ▸ hc) hm⟩
  · obtain ⟨s, hs⟩ := ex_get hi
    have ho := (h.one i s hs).blk
    refine ⟨fun e => absurd (blk_type (e ▸ ho) h.blk) (by decide), fun e => blk_map (e ▸ ho) hm, fun e => ?_, fun e => ?_, fun b hb e => ?_, fun j hj e => ?_⟩
    · obtain ⟨cur, hc⟩ := row_lt h.row e
      exact absurd (blk_type hc ho) (by decide)
    · obtain ⟨f, c, hx⟩ := hmap i t hi e
      exact blk_map h.blk hx
    · obtain ⟨cur, hc⟩ := row_lt h.row hb
      obtain ⟨f, c, hx⟩ := hmap i b hi e
      exact blk_map hc hx
    · obtain ⟨f, c, hx⟩ := hmap j _ hj e
      exact blk_map ho hx
/-- shapes in the blocks of S -/
def TrS (S : Nat → Prop) (t M : Nat) (L : List Sh) (w : World) : Prop := ∃ m v g nm, TrAt M L t m v g nm w ∧ ∀ b, FtS L.length t m v g nm b → S b
theorem TrS.wf {S : Nat → Prop} {t M : Nat} {L : List Sh} {w : World} (h : TrS S t M L w) : WfS M L := by
  obtain ⟨m, v, g, nm, h1, _⟩ := h
  exact h1.wf
theorem TrS.mono {S T : Nat → Prop} {t M : Nat} {L : List Sh} {w : World} (h : TrS S t M L w) (hS : ∀ b, b < w.heap.size → S b → T b) : TrS T t M L w := by
  obtain ⟨m, v, g, nm, h1, h2⟩ := h
  exact ⟨m, v, g, nm, h1, fun b hb => hS b (h1.lt hb) (h2 b hb)⟩
theorem TrS.keep {S T : Nat → Prop} {t M : Nat} {L : List Sh} {a c : World} (h : TrS S t M L a) (k : Keep T a c) (hT : ∀ b, b < a.heap.size → S b → ¬ T b) : TrS S t M L c := by
  obtain ⟨m, v, g, nm, h1, h2⟩ := h
  exact ⟨m, v, g, nm, h1.keep (fun b hb => k.block b (h1.lt hb) (hT b (h1.lt hb) (h2 b hb))), h2⟩
theorem TrS.on {S : Nat → Prop} {t M : Nat} {L : List Sh} {a c : World} (h : TrS S t M L a) (k : Below a.heap.size a c) : TrS S t M L c :=
  h.keep (T := fun _ => False) (Keep.of k) (fun _ _ _ h => h)
/-- a forest at f, in the blocks of S -/
def FoS (S : Nat → Prop) (f M : Nat) (L : List Sh) (w : World) : Prop := ∃ t, Blk f 231 #[.pointer (some ⟨t, 0, none⟩)] w ∧ TrS (fun b => S b ∧ b ≠ f) t M L w ∧ S f
theorem FoS.wf {S : Nat → Prop} {f M : Nat} {L : List Sh} {w : World} (h : FoS S f M L w) : WfS M L := by
  obtain ⟨t, _, h1, _⟩ := h
  exact h1.wf
theorem FoS.lt {S : Nat → Prop} {f M : Nat} {L : List Sh} {w : World} (h : FoS S f M L w) : f < w.heap.size := by
  obtain ⟨t, h1, _⟩ := h
  exact blk_lt h1
theorem FoS.mono {S T : Nat → Prop} {f M : Nat} {L : List Sh} {w : World} (h : FoS S f M L w) (hS : ∀ b, b < w.heap.size → S b → T b) : FoS T f M L w := by
  obtain ⟨t, h1, h2, h3⟩ := h
  exact ⟨t, h1, h2.mono (fun b hb h => ⟨hS b hb h.1, h.2⟩), hS f (blk_lt h1) h3⟩
theorem FoS.keep {S T : Nat → Prop} {f M : Nat} {L : List Sh} {a c : World} (h : FoS S f M L a) (k : Keep T a c) (hT : ∀ b, b < a.heap.size → S b → ¬ T b) : FoS S f M L c := by
  obtain ⟨t, h1, h2, h3⟩ := h
  exact ⟨t, blk_keep h1 k (hT f (blk_lt h1) h3), h2.keep k (fun b hb h => hT b hb h.1), h3⟩
theorem FoS.on {S : Nat → Prop} {f M : Nat} {L : List Sh} {a c : World} (h : FoS S f M L a) (k : Below a.heap.size a c) : FoS S f M L c :=
  h.keep (T := fun _ => False) (Keep.of k) (fun _ _ _ h => h)

theorem trees_new (w : World) (M : Nat) (hM : M ≤ 150) {m t f : Nat} (hm : m = w.heap.size) (ht : t = w.heap.size + 1) (hf : f = w.heap.size + 1 + 1) :
    FoS (fun b => w.heap.size ≤ b) f M [] (((w.alloc (.map #[] 0)).alloc (.cells #[.int .i64 (M : Int), .map (some m), .slice none 0 0] 254)).alloc (.cells #[.pointer (some ⟨t, 0, none⟩)] 231)) ∧
      Below w.heap.size w (((w.alloc (.map #[] 0)).alloc (.cells #[.int .i64 (M : Int), .map (some m), .slice none 0 0] 254)).alloc (.cells #[.pointer (some ⟨t, 0, none⟩)] 231)) := by
  subst hm ht hf
  have b1 := (Below.refl w.heap.size w).alloc (Nat.le_refl _) (.map #[] 0)
  have b2 := b1.alloc (by simp) (.cells #[.int .i64 (M : Int), .map (some w.heap.size), .slice none 0 0] 254)
  have b3 := b2.alloc (by simp; omega) (.cells #[.pointer (some ⟨w.heap.size + 1, 0, none⟩)] 231)
  have h2 := blk_new (w.alloc (.map #[] 0)) 254 #[.int .i64 (M : Int), .map (some w.heap.size), .slice none 0 0]
  simp only [World.size_alloc] at h2
  have h3 := blk_new ((w.alloc (.map #[] 0)).alloc (.cells #[.int .i64 (M : Int), .map (some w.heap.size), .slice none 0 0] 254)) 231 #[.pointer (some ⟨w.heap.size + 1, 0, none⟩)]
  simp only [World.size_alloc] at h3
  refine ⟨⟨w.heap.size + 1, h3, ⟨w.heap.size, .slice none 0 0, fun _ => 0, fun _ => none, ⟨wfS_nil hM, ?_, ⟨rfl, .inl ⟨rfl, rfl⟩⟩, ⟨0, Nat.zero_le _, ?_⟩, fun i s hi => by simp at hi, fun i j hi => by simp at hi, fun i j k hi => by simp at hi, fun i hi => by simp at hi⟩, ?_⟩, by omega⟩, b3⟩
  · exact blk_on h2 ((Below.refl _ _).alloc (Nat.le_refl _) _)
  · exact mapI_keep (mapI_ext (mapI_new w) (fun s => rfl)) ((((Below.refl _ _).alloc (Nat.le_refl _) _).alloc (by simp) _).block _ (by simp))
  · rintro b (rfl | rfl | h | ⟨i, hi, _⟩)
    · omega
    · omega
    · simp [Value.ownBlock] at h
    · simp at hi
def mostS (k : Int) : Nat := if k < 0 then 0 else if 150 < k then 150 else k.toNat
theorem mostS_le (k : Int) : mostS k ≤ 150 := by unfold mostS; split; omega; split; omega; omega
theorem noTrees_calls (w : World) (M : Nat) :
    Calls Tryz.prog 124 #[.int .i64 (M : Int)] w fun e w' => e = .returned (.pointer (some ⟨w.heap.size + 1, 0, none⟩)) ∧ w' = (w.alloc (.map #[] 0)).alloc (.cells #[.int .i64 (M : Int), .map (some w.heap.size), .slice none 0 0] 254) := by
  have hmk : ∀ w, (Instr.makeMap 251 none).run Tryz.prog w = .ok (.map (some w.heap.size)) (w.alloc (.map #[] 0)) := fun w => by simp [Instr.makeMap]
  go_enter Tryz.func124, Tryz.ntmps124
  go_wp2_with fail
  go_ret
  exact ⟨rfl, rfl⟩
theorem fnew_calls (w : World) (k : Int) :
    Calls Tryz.prog 80 #[.int .i64 k] w fun e w' => ∃ f, e = .returned (.pointer (some ⟨f, 0, none⟩)) ∧ FoS (fun b => w.heap.size ≤ b) f (mostS k) [] w' ∧ Below w.heap.size w w' := by
  have HW := hid (trees_new w (mostS k) (mostS_le k) rfl rfl rfl)
  rcases Int.lt_or_le k 0 with h1 | h1
  · have hM : mostS k = 0 := by unfold mostS; rw [if_pos h1]
    rw [hM] at HW ⊢
    have HC := hid (noTrees_calls w 0)
    go_enter Tryz.func80, Tryz.ntmps80
    go_wp2_with fail
    refine HC.out.mono ?_
    rintro e1 w1 ⟨rfl, rfl⟩
    go_wp2_with fail
    go_ret
    exact ⟨_, rfl, HW.out⟩
  · rcases Int.lt_or_le 150 k with h2 | h2
    · have hM : mostS k = 150 := by unfold mostS; rw [if_neg (by omega), if_pos h2]
      rw [hM] at HW ⊢
      have HC := hid (noTrees_calls w 150)
      go_enter Tryz.func80, Tryz.ntmps80
      go_wp2_with fail
      refine HC.out.mono ?_
      rintro e1 w1 ⟨rfl, rfl⟩
      go_wp2_with fail
      go_ret
      exact ⟨_, rfl, HW.out⟩
    · obtain ⟨n, rfl⟩ : ∃ n : Nat, k = (n : Int) := ⟨k.toNat, by omega⟩
      have hM : mostS (n : Int) = n := by unfold mostS; rw [if_neg (by omega), if_neg (by omega)]; omega
      rw [hM] at HW ⊢
      have HC := hid (noTrees_calls w n)
      clear h1
      go_enter Tryz.func80, Tryz.ntmps80
      go_wp2_with fail
      refine HC.out.mono ?_
      rintro e1 w1 ⟨rfl, rfl⟩
      go_wp2_with fail
      go_ret
      exact ⟨_, rfl, HW.out⟩
theorem fmade_calls {S : Nat → Prop} {f M : Nat} {L : List Sh} (w : World) (h : FoS S f M L w) :
    Calls Tryz.prog 137 #[.pointer (some ⟨f, 0, none⟩)] w fun e w' => e = .returned (.bool true) ∧ w' = w := by
  obtain ⟨t, h1, _⟩ := h
  have c0 : w.cell? ⟨f, 0, none⟩ = some (.pointer (some ⟨t, 0, none⟩)) := by rw [blk_cell h1]; rfl
  clear h1
  go_enter Tryz.func137, Tryz.ntmps137
  go_wp2_with fail
  go_ret
  exact ⟨rfl, rfl⟩
theorem TrAt.cells {M : Nat} {L : List Sh} {t m : Nat} {v : Value} {g : Nat → Nat} {nm : Nat → Option Nat} {w : World} (h : TrAt M L t m v g nm w) :
    w.cell? ⟨t, 0, none⟩ = some (.int .i64 (M : Int)) ∧ w.cell? ⟨t, 1, none⟩ = some (.map (some m)) ∧ w.cell? ⟨t, 2, none⟩ = some v :=
  ⟨by rw [blk_cell h.blk]; rfl, by rw [blk_cell h.blk]; rfl, by rw [blk_cell h.blk]; rfl⟩
theorem OneAt.cells {L : List Sh} {s : Sh} {g : Nat} {nm : Option Nat} {w : World} (h : OneAt L s g nm w) :
    w.cell? ⟨g, 0, none⟩ = some (.int .i64 s.1) ∧ w.cell? ⟨g, 1, none⟩ = some (.int .i64 (parS L s : Int)) ∧ w.cell? ⟨g, 2, none⟩ = some (.int .i64 (lastS s)) ∧ w.cell? ⟨g, 3, none⟩ = some (.map nm) :=
  ⟨by rw [blk_cell h.blk]; rfl, by rw [blk_cell h.blk]; rfl, by rw [blk_cell h.blk]; rfl, by rw [blk_cell h.blk]; rfl⟩
theorem flen_calls {S : Nat → Prop} {f M : Nat} {L : List Sh} (w : World) (h : FoS S f M L w) :
    Calls Tryz.prog 172 #[.pointer (some ⟨f, 0, none⟩)] w fun e w' => e = .returned (.int .i64 (L.length : Int)) ∧ w' = w := by
  have H := hid h
  obtain ⟨t, h1, ⟨m, v, g, nm, h2, _⟩, _⟩ := h
  obtain ⟨ao, cap, rfl⟩ := row_shape h2.row
  obtain ⟨c1, c2, c3⟩ := h2.cells
  have c0 : w.cell? ⟨f, 0, none⟩ = some (.pointer (some ⟨t, 0, none⟩)) := by rw [blk_cell h1]; rfl
  clear h1 h2
  go_enter Tryz.func172, Tryz.ntmps172
  go_wp2_with fail
  refine (fmade_calls _ H.out).mono ?_
  rintro e1 w1 ⟨rfl, rfl⟩
  go_wp2_with fail
  go_ret
  exact ⟨rfl, rfl⟩
theorem fhas_calls {S : Nat → Prop} {f M : Nat} {L : List Sh} (w : World) (h : FoS S f M L w) (id : Int) :
    Calls Tryz.prog 155 #[.pointer (some ⟨f, 0, none⟩), .int .i64 id] w fun e w' => e = .returned (.bool (getS L id).isSome) ∧ w' = w := by
  have HL := hid (flen_calls w h)
  clear h
  cases hs : getS L id with
  | some s =>
    obtain ⟨i, rfl, hi⟩ := getS_some hs
    have hl := lt_of_get hi
    have d1 : decide (0 < ((i + 1 : Nat) : Int)) = true := decide_eq_true (by omega)
    have d2 : decide (((i + 1 : Nat) : Int) ≤ (L.length : Int)) = true := decide_eq_true (by omega)
    generalize ((i + 1 : Nat) : Int) = j at *
    clear hs hi
    go_enter Tryz.func155, Tryz.ntmps155
    go_wp2_with fail
    refine HL.out.mono ?_
    rintro e1 w1 ⟨rfl, rfl⟩
    go_wp2_with fail
    go_ret
    exact ⟨rfl, rfl⟩
  | none =>
    have hn := getS_none hs
    clear hs
    by_cases h1 : 0 < id
    · have d1 : decide (0 < id) = true := decide_eq_true h1
      have d2 : decide (id ≤ (L.length : Int)) = false := decide_eq_false (by omega)
      clear hn
      go_enter Tryz.func155, Tryz.ntmps155
      go_wp2_with fail
      refine HL.out.mono ?_
      rintro e1 w1 ⟨rfl, rfl⟩
      go_wp2_with fail
      go_ret
      exact ⟨rfl, rfl⟩
    · have d1 : decide (0 < id) = false := decide_eq_false h1
      clear hn
      go_enter Tryz.func155, Tryz.ntmps155
      go_wp2_with fail
      go_ret
      exact ⟨rfl, rfl⟩
/-- a shape that is there -/
theorem sat_calls {M : Nat} {L : List Sh} {t m i : Nat} {v : Value} {g : Nat → Nat} {nm : Nat → Option Nat} (w : World) (h : TrAt M L t m v g nm w) (hi : i < L.length) :
    Calls Tryz.prog 163 #[.pointer (some ⟨t, 0, none⟩), .int .i64 ((i + 1 : Nat) : Int)] w fun e w' => e = .returned (.pointer (some ⟨g i, 0, none⟩)) ∧ w' = w := by
  obtain ⟨gb, cap, rfl, _, hlt⟩ := h.row.form (by omega)
  obtain ⟨c1, c2, c3⟩ := h.cells
  have c4 := row_cell h.row (rowL_at g hi)
  have hl := h.wf.len
  have hm := h.wf.most
  clear h
  generalize g i = gi at *
  go_enter Tryz.func163, Tryz.ntmps163
  go_wp2_with fail
  go_ret
  exact ⟨rfl, rfl⟩
theorem up_calls (w : World) (t : Nat) (id : Int) :
    Calls Tryz.prog 173 #[.pointer (some ⟨t, 0, none⟩), .int .i64 id] w fun e w' => e = .returned (.func (.func 180) #[] #[.pointer (some ⟨w.heap.size + 1, 0, none⟩), .pointer (some ⟨w.heap.size, 0, none⟩)]) ∧ w' = (w.alloc (.cells #[.pointer (some ⟨t, 0, none⟩)] 228)).alloc (.cells #[.int .i64 id] 3) := by
  go_enter Tryz.func173, Tryz.ntmps173
  go_wp2_with fail
  go_ret
  exact ⟨rfl, rfl⟩

end Go.Proofs.YtimhgbcanmgajaaGreat
