/- An act on a dict, and on the document's. -/
import Derived.Test.YtphniknckmfilaaDcRef3
namespace Go.Proofs.Ytphniknckmfilaa
set_option linter.unusedSimpArgs false
open Go.RowKit

/-- the document's dict, in the blocks of R -/
def RfS (R : Nat → Prop) (r : Nat) (l : List Ent) (w : World) : Prop := ∃ nv vv, RfAt r nv vv l w ∧ (∀ b, FtR r nv vv b → R b) ∧ OnceL l ∧ l.length ≤ 1000000
theorem RfS.keep {R T : Nat → Prop} {r : Nat} {l : List Ent} {a c : World} (h : RfS R r l a) (k : Keep T a c) (hT : ∀ b, b < a.heap.size → R b → ¬ T b) : RfS R r l c := by
  obtain ⟨nv, vv, h1, h2, h3⟩ := h
  exact ⟨nv, vv, h1.keep (fun b hb => k.block b (h1.lt hb) (hT b (h1.lt hb) (h2 b hb))), h2, h3⟩
theorem RfS.mono {R T : Nat → Prop} {r : Nat} {l : List Ent} {w : World} (h : RfS R r l w) (hR : ∀ b, b < w.heap.size → R b → T b) : RfS T r l w := by
  obtain ⟨nv, vv, h1, h2, h3⟩ := h
  exact ⟨nv, vv, h1, fun b hb => hR b (h1.lt hb) (h2 b hb), h3⟩
/-- both, apart -/
structure Pair (S R : Nat → Prop) (d r n : Nat) (ld lr : List Ent) (w : World) : Prop where
  ds : DcS S d n ld w
  rs : RfS R r lr w
  dj : ∀ b, S b → ¬ R b
  lt : ∀ b, S b ∨ R b → b < w.heap.size
def Ext (S : Nat → Prop) (w : World) (S' : Nat → Prop) : Prop := ∀ b, S' b → S b ∨ w.heap.size ≤ b
def SR (S R : Nat → Prop) (b : Nat) : Prop := S b ∨ R b
theorem Pair.on {S R : Nat → Prop} {d r n : Nat} {ld lr : List Ent} {a c : World} (h : Pair S R d r n ld lr a) (k : Below a.heap.size a c) : Pair S R d r n ld lr c :=
  ⟨h.ds.on k, h.rs.keep (T := fun _ => False) (Keep.of k) (fun _ _ _ h => h), h.dj, fun b hb => Nat.lt_of_lt_of_le (h.lt b hb) k.size⟩
theorem Pair.keep {S R T : Nat → Prop} {d r n : Nat} {ld lr : List Ent} {a c : World} (h : Pair S R d r n ld lr a) (k : Keep T a c) (hT : ∀ b, S b ∨ R b → ¬ T b) : Pair S R d r n ld lr c :=
  ⟨h.ds.keep k (fun b _ hb => hT b (.inl hb)), h.rs.keep k (fun b _ hb => hT b (.inr hb)), h.dj, fun b hb => Nat.lt_of_lt_of_le (h.lt b hb) k.size⟩
theorem Pair.d {S R : Nat → Prop} {d r n n' : Nat} {ld lr ld' : List Ent} {w w1 : World} (h : Pair S R d r n ld lr w) (h1 : DcS (Up S w) d n' ld' w1) (k : Keep S w w1) :
    ∃ S', Pair S' R d r n' ld' lr w1 ∧ Ext S w S' ∧ Keep (SR S R) w w1 := by
  refine ⟨fun b => Up S w b ∧ b < w1.heap.size, ⟨h1.mono (fun b hb hs => ⟨hs, hb⟩) (Nat.le_refl _), h.rs.keep k (fun b _ hr hs => h.dj b hs hr), fun b hb hr => ?_, fun b hb => ?_⟩, fun b hb => hb.1, k.mono (fun b _ hb => .inl hb)⟩
  · rcases hb.1 with h2 | h2
    · exact h.dj b h2 hr
    · have := h.lt b (.inr hr); omega
  · rcases hb with hb | hb
    · exact hb.2
    · exact Nat.lt_of_lt_of_le (h.lt b (.inr hb)) k.size
theorem Pair.r {S R : Nat → Prop} {d r n : Nat} {ld lr lr' : List Ent} {w w1 : World} (h : Pair S R d r n ld lr w) (h1 : RfS (Up R w) r lr' w1) (k : Keep R w w1) :
    ∃ R', Pair S R' d r n ld lr' w1 ∧ Ext R w R' ∧ Keep (SR S R) w w1 := by
  refine ⟨fun b => Up R w b ∧ b < w1.heap.size, ⟨h.ds.keep k (fun b _ hs hr => h.dj b hs hr), h1.mono (fun b hb hs => ⟨hs, hb⟩), fun b hs hb => ?_, fun b hb => ?_⟩, fun b hb => hb.1, k.mono (fun b _ hb => .inr hb)⟩
  · rcases hb.1 with h2 | h2
    · exact h.dj b hs h2
    · have := h.lt b (.inl hs); omega
  · rcases hb with hb | hb
    · exact Nat.lt_of_lt_of_le (h.lt b (.inl hb)) k.size
    · exact hb.2
/-- an act, done to a list -/
def doL (l : List Ent) (a : Ac) : List Ent := if a.1 = 0 then setL l a.2.1 a.2.2 else if a.1 = 1 then dropL l a.2.1 else l
/-- behind an act -/
def After (S R : Nat → Prop) (d r n : Nat) (ld lr : List Ent) (w w' : World) : Prop := ∃ S' R', Pair S' R' d r n ld lr w' ∧ Ext S w S' ∧ Ext R w R' ∧ Keep (SR S R) w w'

/-- Set, of both -/
theorem psetd {S R : Nat → Prop} {d r n : Nat} {ld lr : List Ent} (w : World) (h : Pair S R d r n ld lr w) (hn : n ≤ 1000000) (s : ByteArray) (hs : s.size ≤ 1000000) (x : Vl) :
    Calls Try.prog 14 #[.pointer (some ⟨d, 0, none⟩), .string s, vlV x] w fun e w' => e = .returned (.bool (!hasL ld s)) ∧ ∃ S', Pair S' R d r (n + 1) (setL ld s x) lr w' ∧ Ext S w S' ∧ Keep (SR S R) w w' :=
  (dset_calls w h.ds hn s hs x).mono fun _ _ q => ⟨q.1, h.d q.2.1 q.2.2⟩
theorem pdeld {S R : Nat → Prop} {d r n : Nat} {ld lr : List Ent} (w : World) (h : Pair S R d r n ld lr w) (hn : n ≤ 1000000) (s : ByteArray) (hs : s.size ≤ 1000000) :
    Calls Try.prog 17 #[.pointer (some ⟨d, 0, none⟩), .string s] w fun e w' => e = .returned (.bool (hasL ld s)) ∧ ∃ S', Pair S' R d r n (dropL ld s) lr w' ∧ Ext S w S' ∧ Keep (SR S R) w w' :=
  (ddel_calls w h.ds hn s hs).mono fun _ _ q => ⟨q.1, h.d q.2.1 q.2.2⟩
theorem psetr {S R : Nat → Prop} {d r n : Nat} {ld lr : List Ent} (w : World) (h : Pair S R d r n ld lr w) (hl : lr.length < 1000000) (s : ByteArray) (x : Vl) :
    Calls Try.prog 20 #[.pointer (some ⟨r, 0, none⟩), .string s, vlV x] w fun e w' => e = .returned (.bool (!hasL lr s)) ∧ ∃ R', Pair S R' d r n ld (setL lr s x) w' ∧ Ext R w R' ∧ Keep (SR S R) w w' := by
  obtain ⟨nv, vv, h1, h2, h3, h4⟩ := h.rs
  refine (rset_calls w h1 s x h4).mono fun e w' q => ?_
  obtain ⟨q1, nv', vv', q2, q3, q4⟩ := q
  refine ⟨q1, h.r ⟨nv', vv', q2, fun b hb => ?_, once_set x h3, ?_⟩ (q3.mono (fun b _ hb => h2 b hb))⟩
  · rcases q4 b hb with h | h
    · exact .inl (h2 b h)
    · exact .inr h
  · rw [setL_len]; split <;> omega
theorem pdelr {S R : Nat → Prop} {d r n : Nat} {ld lr : List Ent} (w : World) (h : Pair S R d r n ld lr w) (s : ByteArray) :
    Calls Try.prog 21 #[.pointer (some ⟨r, 0, none⟩), .string s] w fun e w' => e = .returned (.bool (hasL lr s)) ∧ ∃ R', Pair S R' d r n ld (dropL lr s) w' ∧ Ext R w R' ∧ Keep (SR S R) w w' := by
  obtain ⟨nv, vv, h1, h2, h3, h4⟩ := h.rs
  refine (rdel_calls w h1 h3 s h4).mono fun e w' q => ?_
  obtain ⟨q1, nv', vv', q2, q3, q4⟩ := q
  refine ⟨q1, h.r ⟨nv', vv', q2, fun b hb => ?_, once_drop h3, ?_⟩ (q3.mono (fun b _ hb => h2 b hb))⟩
  · rcases q4 b hb with h | h
    · exact .inl (h2 b h)
    · exact .inr h
  · exact Nat.le_trans (List.length_filter_le _ _) h4
theorem pgetr {S R : Nat → Prop} {d r n : Nat} {ld lr : List Ent} (w : World) (h : Pair S R d r n ld lr w) (s : ByteArray) :
    Calls Try.prog 22 #[.pointer (some ⟨r, 0, none⟩), .string s] w fun e w' => e = .returned (.tuple #[vlV (gotV lr s), .bool (hasL lr s)]) ∧ Below w.heap.size w w' := by
  obtain ⟨nv, vv, h1, h2, h3, h4⟩ := h.rs
  exact rget_calls w h1 s h4
/-- two steps, one behind the other -/
theorem after2 {S R S' R' : Nat → Prop} {d r n : Nat} {ld lr : List Ent} {w a b c : World} (k0 : Below w.heap.size w a) (e1 : Ext S a S') (k1 : Keep (SR S R) a b) (h : Pair S' R' d r n ld lr c) (e2 : Ext R b R') (k2 : Keep (SR S' R) b c) : After S R d r n ld lr w c := by
  have z1 := k0.size
  have z2 := k1.size
  refine ⟨S', R', h, fun x hx => ?_, fun x hx => ?_, ?_⟩
  · rcases e1 x hx with h | h
    · exact .inl h
    · exact .inr (by omega)
  · rcases e2 x hx with h | h
    · exact .inl h
    · exact .inr (by omega)
  · refine Keep.trans (Keep.of k0) (Keep.trans k1 k2 (fun i hi hs => ?_)) (fun i _ h => h)
    rcases hs with hs | hs
    · rcases e1 i hs with h | h
      · exact .inl h
      · omega
    · exact .inr hs
theorem after2' {S R S' R' : Nat → Prop} {d r n : Nat} {ld lr : List Ent} {w a b c : World} (k0 : Below w.heap.size w a) (e1 : Ext R a R') (k1 : Keep (SR S R) a b) (h : Pair S' R' d r n ld lr c) (e2 : Ext S b S') (k2 : Keep (SR S R') b c) : After S R d r n ld lr w c := by
  have z1 := k0.size
  have z2 := k1.size
  refine ⟨S', R', h, fun x hx => ?_, fun x hx => ?_, ?_⟩
  · rcases e2 x hx with h | h
    · exact .inl h
    · exact .inr (by omega)
  · rcases e1 x hx with h | h
    · exact .inl h
    · exact .inr (by omega)
  · refine Keep.trans (Keep.of k0) (Keep.trans k1 k2 (fun i hi hs => ?_)) (fun i _ h => h)
    rcases hs with hs | hs
    · exact .inl hs
    · rcases e1 i hs with h | h
      · exact .inr h
      · omega

abbrev actO (a : Ac) : Obj := .cells #[.int .i64 a.1, .string a.2.1, .int .i64 a.2.2.1, .int .i64 a.2.2.2.1, .string a.2.2.2.2] 34
/-- the act's own block stays -/
theorem box_far {S R : Nat → Prop} {d r n : Nat} {ld lr : List Ent} {w a c : World} {o : Int} {s : ByteArray} {x : Vl} (h : Pair S R d r n ld lr w) (hb : Blk w.heap.size 34 #[.int .i64 o, .string s, .int .i64 x.1, .int .i64 x.2.1, .string x.2.2] a) (k : Keep (SR S R) a c) :
    Blk w.heap.size 34 #[.int .i64 o, .string s, .int .i64 x.1, .int .i64 x.2.1, .string x.2.2] c :=
  blk_keep hb k (fun hs => by have := h.lt _ hs; omega)
theorem box_cells {g : Nat} {w : World} {o : Int} {s : ByteArray} {x : Vl} (hb : Blk g 34 #[.int .i64 o, .string s, .int .i64 x.1, .int .i64 x.2.1, .string x.2.2] w) :
    w.cell? ⟨g, 1, none⟩ = some (.string s) ∧ w.cell? ⟨g, 2, none⟩ = some (.int .i64 x.1) ∧ w.cell? ⟨g, 3, none⟩ = some (.int .i64 x.2.1) ∧ w.cell? ⟨g, 4, none⟩ = some (.string x.2.2) :=
  ⟨by rw [blk_cell hb]; rfl, by rw [blk_cell hb]; rfl, by rw [blk_cell hb]; rfl, by rw [blk_cell hb]; rfl⟩

set_option maxHeartbeats 2000000 in
theorem done_set {S R : Nat → Prop} {d r n : Nat} {ld lr : List Ent} (w : World) (h : Pair S R d r n ld lr w) (hn : n ≤ 1000000) (hl : lr.length < 1000000) (s : ByteArray) (hs : s.size ≤ 1000000) (x : Vl) :
    Calls Try.prog 10 #[.pointer (some ⟨d, 0, none⟩), .pointer (some ⟨r, 0, none⟩), .agg #[.int .i64 0, .string s, .int .i64 x.1, .int .i64 x.2.1, .string x.2.2]] w fun e w' =>
      e = .returned (.bool (decide ((!hasL ld s) = (!hasL lr s)))) ∧ After S R d r (n + 1) (setL ld s x) (setL lr s x) w w' := by
  have A := ((Below.refl w.heap.size w).alloc (Nat.le_refl _) (actO (0, s, x))).drew
  have HA := hid A
  have BX := hid (show Blk w.heap.size 34 #[.int .i64 0, .string s, .int .i64 x.1, .int .i64 x.2.1, .string x.2.2] (w.alloc (actO (0, s, x))).drew from blk_new w _ _)
  have P0 := hid (h.on A)
  have P := hid h
  clear h A
  go_enter Try.func10, Try.ntmps10
  go_wp2_with fail
  refine wp_region_held_drew (S := fun a => a.cell? ⟨w.heap.size, 1, none⟩ = some (.string s) ∧ a.cell? ⟨w.heap.size, 2, none⟩ = some (.int .i64 x.1) ∧ a.cell? ⟨w.heap.size, 3, none⟩ = some (.int .i64 x.2.1) ∧ a.cell? ⟨w.heap.size, 4, none⟩ = some (.string x.2.2)) (by kernel_rfl) (box_cells BX.out) (fun hHeld => ?_)
  refine wpAnyH_take (i := 0) (v := ?v1) rfl (by kernel_rfl) (by kernel_rfl) (by kernel_rfl) (fun _ _ _ h => h) (Or.inl ⟨by rfl, ?hy1⟩) (by assumption) ?_
  case hy1 => (intro w hSw; go_simp <;> (try with_reducible rfl))
  simp only [Act.put, List.setIfInBounds_toArray, List.set_cons_zero, List.set_cons_succ, List.getElem_toArray, List.getElem_cons_succ, List.getElem_cons_zero]
  refine wpAnyH_take (i := 1) (v := ?v2) rfl (by kernel_rfl) (by kernel_rfl) (by kernel_rfl) (fun _ _ _ h => h) (Or.inl ⟨by rfl, ?hy2⟩) (by assumption) ?_
  case hy2 => (intro w hSw; go_simp <;> (try with_reducible rfl))
  simp only [Act.put, List.setIfInBounds_toArray, List.set_cons_zero, List.set_cons_succ, List.getElem_toArray, List.getElem_cons_succ, List.getElem_cons_zero]
  refine wpAnyH_take (i := 2) (v := ?v3) rfl (by kernel_rfl) (by kernel_rfl) (by kernel_rfl) (fun _ _ _ h => h) (Or.inl ⟨by rfl, ?hy3⟩) (by assumption) ?_
  case hy3 => (intro w hSw; go_simp <;> (try with_reducible rfl))
  simp only [Act.put, List.setIfInBounds_toArray, List.set_cons_zero, List.set_cons_succ, List.getElem_toArray, List.getElem_cons_succ, List.getElem_cons_zero]
  refine wpAnyH_take (i := 3) (v := ?v4) rfl (by kernel_rfl) (by kernel_rfl) (by kernel_rfl) (fun _ _ _ h => h) (Or.inl ⟨by rfl, ?hy4⟩) (by assumption) ?_
  case hy4 => (intro w hSw; go_simp <;> (try with_reducible rfl))
  simp only [Act.put, List.setIfInBounds_toArray, List.set_cons_zero, List.set_cons_succ, List.getElem_toArray, List.getElem_cons_succ, List.getElem_cons_zero]
  refine wpAnyH_take (i := 4) (v := ?v5) rfl (by kernel_rfl) (by kernel_rfl) (by kernel_rfl) (fun _ _ _ h => h) (Or.inl ⟨by rfl, ?hy5⟩) (by assumption) ?_
  case hy5 => (intro w hSw; go_simp <;> (try with_reducible rfl))
  simp only [Act.put, List.setIfInBounds_toArray, List.set_cons_zero, List.set_cons_succ, List.getElem_toArray, List.getElem_cons_succ, List.getElem_cons_zero]
  refine wpAnyH_take (i := 6) (v := ?v6) rfl (by kernel_rfl) (by kernel_rfl) (by kernel_rfl) (fun _ _ _ h => h) (Or.inl ⟨by rfl, ?hy6⟩) (by assumption) ?_
  case hy6 => (intro w hSw; go_simp <;> (try with_reducible rfl))
  simp only [Act.put, List.setIfInBounds_toArray, List.set_cons_zero, List.set_cons_succ, List.getElem_toArray, List.getElem_cons_succ, List.getElem_cons_zero]
  refine wpAnyH_take (i := 7) (v := ?v7) rfl (by kernel_rfl) (by kernel_rfl) (by kernel_rfl) (fun _ _ _ h => h) (Or.inl ⟨by rfl, ?hy7⟩) (by assumption) ?_
  case hy7 => (intro w hSw; go_simp <;> (try with_reducible rfl))
  simp only [Act.put, List.setIfInBounds_toArray, List.set_cons_zero, List.set_cons_succ, List.getElem_toArray, List.getElem_cons_succ, List.getElem_cons_zero]
  refine wpAnyH_take (i := 8) (v := ?v8) rfl (by kernel_rfl) (by kernel_rfl) (by kernel_rfl) (fun _ _ _ h => h) (Or.inl ⟨by rfl, ?hy8⟩) (by assumption) ?_
  case hy8 => (intro w hSw; go_simp <;> (try with_reducible rfl))
  simp only [Act.put, List.setIfInBounds_toArray, List.set_cons_zero, List.set_cons_succ, List.getElem_toArray, List.getElem_cons_succ, List.getElem_cons_zero]
  refine wpAnyH_take (i := 9) (v := ?v9) rfl (by kernel_rfl) (by kernel_rfl) (by kernel_rfl) (fun _ _ _ h => h) (Or.inl ⟨by rfl, ?hy9⟩) (by assumption) ?_
  case hy9 => (intro w hSw; go_simp <;> (try with_reducible rfl))
  simp only [Act.put, List.setIfInBounds_toArray, List.set_cons_zero, List.set_cons_succ, List.getElem_toArray, List.getElem_cons_succ, List.getElem_cons_zero]
  refine wpAnyH_take (i := 10) (v := ?v10) rfl (by kernel_rfl) (by kernel_rfl) (by kernel_rfl) (fun _ _ _ h => h) (Or.inl ⟨by rfl, ?hy10⟩) (by assumption) ?_
  case hy10 => (intro w hSw; go_simp <;> (try with_reducible rfl))
  simp only [Act.put, List.setIfInBounds_toArray, List.set_cons_zero, List.set_cons_succ, List.getElem_toArray, List.getElem_cons_succ, List.getElem_cons_zero]
  refine wpAnyH_ready (rs := [5]) (by kernel_rfl) (by simp) ?_
  refine AllReadyH.cons rfl (fun K hK => ?_) AllReadyH.nil
  have HK := hid hK
  clear hK
  go_simp
  refine (psetd _ P0.out hn s hs x).mono ?_
  rintro e1 w1 ⟨rfl, S1, p1, x1, k1⟩
  have B1 := hid (box_far P.out BX.out k1)
  have P1 := hid p1
  have X1 := hid x1
  have K1 := hid k1
  clear p1 x1 k1
  refine HK.out.out _ _ (box_cells B1.out) (fun _ => ?_)
  clear HK K
  refine wpAnyH_ready (rs := [11]) (by kernel_rfl) (by simp) ?_
  refine AllReadyH.cons rfl (fun K hK => ?_) AllReadyH.nil
  have HK := hid hK
  clear hK
  go_simp
  refine (psetr _ P1.out hl s x).mono ?_
  rintro e2 w2 ⟨rfl, R2, p2, x2, k2⟩
  have B2 := hid (blk_keep B1.out k2 (fun hs => by
    rcases hs with hs | hs
    · rcases X1.out _ hs with h | h
      · have := P.out.lt _ (.inl h); omega
      · simp at h; omega
    · have := P.out.lt _ (.inr hs); omega))
  have AF := hid (after2 HA.out X1.out K1.out p2 x2 k2)
  clear p2 x2 k2
  refine HK.out.out _ _ (box_cells B2.out) (fun _ => ?_)
  clear HK K
  refine wpAnyH_take (i := 12) (v := ?v13) rfl (by kernel_rfl) (by kernel_rfl) (by kernel_rfl) (fun _ _ _ h => h) (Or.inl ⟨by rfl, ?hy13⟩) (by assumption) ?_
  case hy13 => (intro w hSw; go_simp <;> (try with_reducible rfl))
  simp only [Act.put, List.setIfInBounds_toArray, List.set_cons_zero, List.set_cons_succ, List.getElem_toArray, List.getElem_cons_succ, List.getElem_cons_zero]
  refine wpAnyH_take (i := 13) (v := ?v14) rfl (by kernel_rfl) (by kernel_rfl) (by kernel_rfl) (fun _ _ _ h => h) (Or.inl ⟨by rfl, ?hy14⟩) (by assumption) ?_
  case hy14 => (intro w hSw; go_simp <;> (try with_reducible rfl))
  simp only [Act.put, List.setIfInBounds_toArray, List.set_cons_zero, List.set_cons_succ, List.getElem_toArray, List.getElem_cons_succ, List.getElem_cons_zero]
  refine wpAnyH_done (by kernel_rfl) ?_ _
  go_wp2_with fail
  go_ret
  exact ⟨rfl, AF.out⟩
set_option maxHeartbeats 2000000 in
theorem done_del {S R : Nat → Prop} {d r n : Nat} {ld lr : List Ent} (w : World) (h : Pair S R d r n ld lr w) (hn : n ≤ 1000000) (s : ByteArray) (hs : s.size ≤ 1000000) (x : Vl) :
    Calls Try.prog 10 #[.pointer (some ⟨d, 0, none⟩), .pointer (some ⟨r, 0, none⟩), .agg #[.int .i64 1, .string s, .int .i64 x.1, .int .i64 x.2.1, .string x.2.2]] w fun e w' =>
      e = .returned (.bool (decide (hasL ld s = hasL lr s))) ∧ After S R d r (n + 1) (dropL ld s) (dropL lr s) w w' := by
  have A := ((Below.refl w.heap.size w).alloc (Nat.le_refl _) (actO (1, s, x))).drew
  have HA := hid A
  have BX := hid (show Blk w.heap.size 34 #[.int .i64 1, .string s, .int .i64 x.1, .int .i64 x.2.1, .string x.2.2] (w.alloc (actO (1, s, x))).drew from blk_new w _ _)
  have P0 := hid (h.on A)
  have P := hid h
  clear h A
  go_enter Try.func10, Try.ntmps10
  go_wp2_with fail
  refine wp_region_held_drew (S := fun a => a.cell? ⟨w.heap.size, 1, none⟩ = some (.string s)) (by kernel_rfl) (box_cells BX.out).1 (fun hHeld => ?_)
  refine wpAnyH_take (i := 0) (v := ?v15) rfl (by kernel_rfl) (by kernel_rfl) (by kernel_rfl) (fun _ _ _ h => h) (Or.inl ⟨by rfl, ?hy15⟩) (by assumption) ?_
  case hy15 => (intro w hSw; go_simp <;> (try with_reducible rfl))
  simp only [Act.put, List.setIfInBounds_toArray, List.set_cons_zero, List.set_cons_succ, List.getElem_toArray, List.getElem_cons_succ, List.getElem_cons_zero]
  refine wpAnyH_take (i := 1) (v := ?v16) rfl (by kernel_rfl) (by kernel_rfl) (by kernel_rfl) (fun _ _ _ h => h) (Or.inl ⟨by rfl, ?hy16⟩) (by assumption) ?_
  case hy16 => (intro w hSw; go_simp <;> (try with_reducible rfl))
  simp only [Act.put, List.setIfInBounds_toArray, List.set_cons_zero, List.set_cons_succ, List.getElem_toArray, List.getElem_cons_succ, List.getElem_cons_zero]
  refine wpAnyH_take (i := 2) (v := ?v17) rfl (by kernel_rfl) (by kernel_rfl) (by kernel_rfl) (fun _ _ _ h => h) (Or.inl ⟨by rfl, ?hy17⟩) (by assumption) ?_
  case hy17 => (intro w hSw; go_simp <;> (try with_reducible rfl))
  simp only [Act.put, List.setIfInBounds_toArray, List.set_cons_zero, List.set_cons_succ, List.getElem_toArray, List.getElem_cons_succ, List.getElem_cons_zero]
  refine wpAnyH_take (i := 4) (v := ?v18) rfl (by kernel_rfl) (by kernel_rfl) (by kernel_rfl) (fun _ _ _ h => h) (Or.inl ⟨by rfl, ?hy18⟩) (by assumption) ?_
  case hy18 => (intro w hSw; go_simp <;> (try with_reducible rfl))
  simp only [Act.put, List.setIfInBounds_toArray, List.set_cons_zero, List.set_cons_succ, List.getElem_toArray, List.getElem_cons_succ, List.getElem_cons_zero]
  refine wpAnyH_take (i := 5) (v := ?v19) rfl (by kernel_rfl) (by kernel_rfl) (by kernel_rfl) (fun _ _ _ h => h) (Or.inl ⟨by rfl, ?hy19⟩) (by assumption) ?_
  case hy19 => (intro w hSw; go_simp <;> (try with_reducible rfl))
  simp only [Act.put, List.setIfInBounds_toArray, List.set_cons_zero, List.set_cons_succ, List.getElem_toArray, List.getElem_cons_succ, List.getElem_cons_zero]
  refine wpAnyH_take (i := 6) (v := ?v20) rfl (by kernel_rfl) (by kernel_rfl) (by kernel_rfl) (fun _ _ _ h => h) (Or.inl ⟨by rfl, ?hy20⟩) (by assumption) ?_
  case hy20 => (intro w hSw; go_simp <;> (try with_reducible rfl))
  simp only [Act.put, List.setIfInBounds_toArray, List.set_cons_zero, List.set_cons_succ, List.getElem_toArray, List.getElem_cons_succ, List.getElem_cons_zero]
  refine wpAnyH_ready (rs := [3]) (by kernel_rfl) (by simp) ?_
  refine AllReadyH.cons rfl (fun K hK => ?_) AllReadyH.nil
  have HK := hid hK
  clear hK
  go_simp
  refine (pdeld _ P0.out hn s hs).mono ?_
  rintro e1 w1 ⟨rfl, S1, p1, x1, k1⟩
  have B1 := hid (box_far P.out BX.out k1)
  have P1 := hid p1
  have X1 := hid x1
  have K1 := hid k1
  clear p1 x1 k1
  refine HK.out.out _ _ (box_cells B1.out).1 (fun _ => ?_)
  clear HK K
  refine wpAnyH_ready (rs := [7]) (by kernel_rfl) (by simp) ?_
  refine AllReadyH.cons rfl (fun K hK => ?_) AllReadyH.nil
  have HK := hid hK
  clear hK
  go_simp
  refine (pdelr _ P1.out s).mono ?_
  rintro e2 w2 ⟨rfl, R2, p2, x2, k2⟩
  have B2 := hid (blk_keep B1.out k2 (fun hs => by
    rcases hs with hs | hs
    · rcases X1.out _ hs with h | h
      · have := P.out.lt _ (.inl h); omega
      · simp at h; omega
    · have := P.out.lt _ (.inr hs); omega))
  have AF := hid (after2 HA.out X1.out K1.out p2 x2 k2)
  clear p2 x2 k2
  refine HK.out.out _ _ (box_cells B2.out).1 (fun _ => ?_)
  clear HK K
  refine wpAnyH_take (i := 8) (v := ?v23) rfl (by kernel_rfl) (by kernel_rfl) (by kernel_rfl) (fun _ _ _ h => h) (Or.inl ⟨by rfl, ?hy23⟩) (by assumption) ?_
  case hy23 => (intro w hSw; go_simp <;> (try with_reducible rfl))
  simp only [Act.put, List.setIfInBounds_toArray, List.set_cons_zero, List.set_cons_succ, List.getElem_toArray, List.getElem_cons_succ, List.getElem_cons_zero]
  refine wpAnyH_take (i := 9) (v := ?v24) rfl (by kernel_rfl) (by kernel_rfl) (by kernel_rfl) (fun _ _ _ h => h) (Or.inl ⟨by rfl, ?hy24⟩) (by assumption) ?_
  case hy24 => (intro w hSw; go_simp <;> (try with_reducible rfl))
  simp only [Act.put, List.setIfInBounds_toArray, List.set_cons_zero, List.set_cons_succ, List.getElem_toArray, List.getElem_cons_succ, List.getElem_cons_zero]
  refine wpAnyH_done (by kernel_rfl) ?_ _
  go_wp2_with fail
  go_ret
  obtain ⟨S', R', a1, a2, a3, a4⟩ := AF.out
  exact ⟨rfl, S', R', ⟨a1.ds.mono (fun _ _ h => h) (by omega), a1.rs, a1.dj, a1.lt⟩, a2, a3, a4⟩

set_option maxHeartbeats 2000000 in
theorem done_get {S R : Nat → Prop} {d r n : Nat} {ld lr : List Ent} (w : World) (h : Pair S R d r n ld lr w) (o : Int) (h0 : o ≠ 0) (h1 : o ≠ 1) (s : ByteArray) (hs : s.size ≤ 1000000) (x : Vl) :
    Calls Try.prog 10 #[.pointer (some ⟨d, 0, none⟩), .pointer (some ⟨r, 0, none⟩), .agg #[.int .i64 o, .string s, .int .i64 x.1, .int .i64 x.2.1, .string x.2.2]] w fun e w' =>
      (∃ q, e = .returned (.bool q) ∧ (ld = lr → q = true)) ∧ After S R d r (n + 1) ld lr w w' := by
  have A := ((Below.refl w.heap.size w).alloc (Nat.le_refl _) (actO (o, s, x)))
  have HA := hid A
  have BX := hid (show Blk w.heap.size 34 #[.int .i64 o, .string s, .int .i64 x.1, .int .i64 x.2.1, .string x.2.2] (w.alloc (actO (o, s, x))) from blk_new w _ _)
  have P0 := hid (h.on A)
  have P := hid h
  have d0 : decide (o = 0) = false := decide_eq_false h0
  have d1 : decide (o = 1) = false := decide_eq_false h1
  have HG := hid (get_calls _ P0.out.ds s hs)
  clear h A
  obtain ⟨⟨v1, v2, v3⟩, hv⟩ : ∃ v, gotV ld s = v := ⟨_, rfl⟩
  obtain ⟨⟨u1, u2, u3⟩, hu⟩ : ∃ v, gotV lr s = v := ⟨_, rfl⟩
  have HV := hid hv
  have HU := hid hu
  rw [hv] at HG
  clear hv hu
  unfold vlV at HG
  go_enter Try.func10, Try.ntmps10
  go_wp2_with fail
  refine HG.out.mono ?_
  rintro e1 w1 ⟨rfl, b1⟩
  have A1 := b1.alloc b1.size (Obj.cells #[.int .i64 v1, .int .i64 v2, .string v3] 32)
  have HA1 := hid (below_on HA.out A1)
  have P1 := hid (P0.out.on A1)
  have BX1 := hid (blk_on BX.out A1)
  have V1 := hid (blk_new w1 32 #[.int .i64 v1, .int .i64 v2, .string v3])
  have hw1 : w.heap.size < w1.heap.size := by have := b1.size; simp at this; omega
  clear b1 A1 HG
  obtain ⟨y1, y2, y3, y4⟩ := box_cells BX1.out
  go_wp2_with fail
  have HG2 := hid (pgetr _ P1.out s)
  rw [HU.out] at HG2
  unfold vlV at HG2
  refine HG2.out.mono ?_
  rintro e2 w2 ⟨rfl, b2⟩
  have A2 := b2.alloc b2.size (Obj.cells #[.int .i64 u1, .int .i64 u2, .string u3] 32)
  have HA2 := hid (below_on HA1.out A2)
  have P2 := hid (P1.out.on A2)
  have V2 := blk_on V1.out b2
  have hw2 : w1.heap.size < w2.heap.size := by have := b2.size; simp at this; omega
  have z0 : w2.cell? ⟨w1.heap.size, 0, none⟩ = some (.int .i64 v1) := by rw [blk_cell V2]; rfl
  have z1 : w2.cell? ⟨w1.heap.size, 1, none⟩ = some (.int .i64 v2) := by rw [blk_cell V2]; rfl
  have z2 : w2.cell? ⟨w1.heap.size, 2, none⟩ = some (.string v3) := by rw [blk_cell V2]; rfl
  clear b2 A2 HG2 V1 V2 y1 y2 y3 y4
  have AF := hid (show After S R d r (n + 1) ld lr w (w2.alloc (Obj.cells #[.int .i64 u1, .int .i64 u2, .string u3] 32)) from ⟨S, R, ⟨P2.out.ds.mono (fun _ _ h => h) (by omega), P2.out.rs, P2.out.dj, P2.out.lt⟩, fun b hb => .inl hb, fun b hb => .inl hb, Keep.of HA2.out⟩)
  by_cases hll : ld = lr
  · subst hll
    have e := HV.out.symm.trans HU.out
    injection e with e1 e2
    injection e2 with e2 e3
    subst e1 e2 e3
    go_wp2_with fail
    go_ret
    exact ⟨rfl, AF.out⟩
  · go_wp2_with fail
    all_goals
      go_ret
      exact ⟨⟨_, rfl, fun e => absurd e hll⟩, AF.out⟩
theorem done_calls {S R : Nat → Prop} {d r n : Nat} {ld lr : List Ent} (w : World) (h : Pair S R d r n ld lr w) (hn : n ≤ 1000000) (hl : lr.length < 1000000) (a : Ac) (hs : a.2.1.size ≤ 1000000) :
    Calls Try.prog 10 #[.pointer (some ⟨d, 0, none⟩), .pointer (some ⟨r, 0, none⟩), .agg #[.int .i64 a.1, .string a.2.1, .int .i64 a.2.2.1, .int .i64 a.2.2.2.1, .string a.2.2.2.2]] w fun e w' =>
      (∃ q, e = .returned (.bool q) ∧ (ld = lr → q = true)) ∧ After S R d r (n + 1) (doL ld a) (doL lr a) w w' := by
  obtain ⟨o, s, x⟩ := a
  by_cases h0 : o = 0
  · subst h0
    refine (done_set w h hn hl s hs x).mono fun e w' q => ⟨⟨_, q.1, fun e => ?_⟩, q.2⟩
    rw [e]; simp
  · by_cases h1 : o = 1
    · subst h1
      refine (done_del w h hn s hs x).mono fun e w' q => ⟨⟨_, q.1, fun e => ?_⟩, q.2⟩
      rw [e]; simp
    · refine (done_get w h o h0 h1 s hs x).mono fun e w' q => ⟨q.1, ?_⟩
      unfold doL
      simp only [if_neg h0, if_neg h1]
      exact q.2

end Go.Proofs.Ytphniknckmfilaa
