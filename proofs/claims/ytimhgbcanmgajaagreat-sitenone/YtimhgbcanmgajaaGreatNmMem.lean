/- A table of texts in memory, and what it tells. -/
import Derived.Test.YtimhgbcanmgajaaGreatJoint3
import Derived.BigQuiet
namespace Go.Proofs.YtimhgbcanmgajaaGreat
set_option linter.unusedSimpArgs false
open Go.RowKit

theorem underNt : Tryz.prog.underlying 223 = some (.map 9 3) := by kernel_rfl
theorem infoTx : ∃ i0, Tryz.prog.info? 9 = some i0 ∧ i0.zero = some (.string ⟨#[]⟩) ∧ i0.size = 1 ∧ i0.bytes = 16 :=
  info_parts (show (Tryz.prog.info? 9).map (fun i => (i.zero, i.size, i.bytes)) = some (some (.string ⟨#[]⟩), 1, 16) by kernel_rfl)
theorem underTx : Tryz.prog.underlying 56 = some (.slice 9) := by kernel_rfl

/-- the two ways at p: the map at m, the list is v -/
structure TwAt (p m : Nat) (v : Value) (L : List ByteArray) (w : World) : Prop where
  blk : Blk p 225 #[.map (some m), v] w
  row : w.ownsRow 0 9 1 v L.length (L.map Value.string)
  map : MapN m (numF L) L.length w
def FtT (p m : Nat) (v : Value) (b : Nat) : Prop := b = p ∨ b = m ∨ v.ownBlock = some b
theorem TwAt.keep {p m : Nat} {v : Value} {L : List ByteArray} {a c : World} (h : TwAt p m v L a) (hk : ∀ b, FtT p m v b → c.heap[b]? = a.heap[b]?) : TwAt p m v L c :=
  ⟨(hk p (.inl rfl)).trans h.blk, row_keep h.row (fun g hg => hk g (.inr (.inr hg))), mapN_keep h.map (hk m (.inr (.inl rfl)))⟩
theorem TwAt.lt {p m b : Nat} {v : Value} {L : List ByteArray} {w : World} (h : TwAt p m v L w) (hb : FtT p m v b) : b < w.heap.size := by
  rcases hb with rfl | rfl | hb
  · exact blk_lt h.blk
  · exact mapN_lt h.map
  · obtain ⟨cur, hc⟩ := row_lt h.row hb
    exact blk_lt hc
theorem TwAt.on {p m : Nat} {v : Value} {L : List ByteArray} {a c : World} (h : TwAt p m v L a) (k : Below a.heap.size a c) : TwAt p m v L c := h.keep fun b hb => k.block b (h.lt hb)
theorem TwAt.ne {p m : Nat} {v : Value} {L : List ByteArray} {w : World} (h : TwAt p m v L w) : m ≠ p ∧ (∀ g, v.ownBlock = some g → g ≠ p ∧ g ≠ m) := by
  obtain ⟨es, clock, hm⟩ := mapN_block h.map
  have hp : w.heap[p]? = _ := h.blk
  refine ⟨fun e => ?_, fun g hg => ⟨fun e => ?_, fun e => ?_⟩⟩
  · rw [e, hp] at hm; cases hm
  · obtain ⟨cur, hc⟩ := row_lt h.row hg
    unfold Blk at hc
    rw [e, hp] at hc; cases hc
  · obtain ⟨cur, hc⟩ := row_lt h.row hg
    unfold Blk at hc
    rw [e, hm] at hc; cases hc
theorem TwAt.drew {p m : Nat} {v : Value} {L : List ByteArray} {w : World} (h : TwAt p m v L w) : TwAt p m v L w.drew := h.on (Below.refl _ _).drew
theorem TwAt.cells {p m : Nat} {v : Value} {L : List ByteArray} {w : World} (h : TwAt p m v L w) : w.cell? ⟨p, 0, none⟩ = some (.map (some m)) ∧ w.cell? ⟨p, 1, none⟩ = some v :=
  ⟨by rw [blk_cell h.blk]; rfl, by rw [blk_cell h.blk]; rfl⟩

/-- a table at t, in the blocks of S: its texts are L -/
def NmS (S : Nat → Prop) (t : Nat) (L : List ByteArray) (w : World) : Prop :=
  ∃ p m v, Blk t 227 #[.pointer (some ⟨p, 0, none⟩)] w ∧ TwAt p m v L w ∧ S t ∧ ∀ b, FtT p m v b → S b
theorem NmS.mono {S T : Nat → Prop} {t : Nat} {L : List ByteArray} {w : World} (h : NmS S t L w) (hS : ∀ b, b < w.heap.size → S b → T b) : NmS T t L w := by
  obtain ⟨p, m, v, h1, h2, h3, h4⟩ := h
  exact ⟨p, m, v, h1, h2, hS t (blk_lt h1) h3, fun b hb => hS b (h2.lt hb) (h4 b hb)⟩
theorem NmS.keep {S T : Nat → Prop} {t : Nat} {L : List ByteArray} {a c : World} (h : NmS S t L a) (k : Keep T a c) (hT : ∀ b, b < a.heap.size → S b → ¬ T b) : NmS S t L c := by
  obtain ⟨p, m, v, h1, h2, h3, h4⟩ := h
  exact ⟨p, m, v, blk_keep h1 k (hT t (blk_lt h1) h3), h2.keep (fun b hb => k.block b (h2.lt hb) (hT b (h2.lt hb) (h4 b hb))), h3, h4⟩
theorem NmS.on {S : Nat → Prop} {t : Nat} {L : List ByteArray} {a c : World} (h : NmS S t L a) (k : Below a.heap.size a c) : NmS S t L c :=
  h.keep (T := fun _ => False) (Keep.of k) (fun _ _ _ h => h)
theorem NmS.lt {S : Nat → Prop} {t : Nat} {L : List ByteArray} {w : World} (h : NmS S t L w) : t < w.heap.size := by
  obtain ⟨p, m, v, h1, _⟩ := h
  exact blk_lt h1

theorem ntwo_new (w : World) {m p t : Nat} (hm : m = w.heap.size) (hp : p = w.heap.size + 1) (ht : t = w.heap.size + 1 + 1) :
    NmS (fun b => w.heap.size ≤ b) t [] (((w.alloc (.map #[] 0)).alloc (.cells #[.map (some m), .slice none 0 0] 225)).alloc (.cells #[.pointer (some ⟨p, 0, none⟩)] 227)) ∧
      Below w.heap.size w (((w.alloc (.map #[] 0)).alloc (.cells #[.map (some m), .slice none 0 0] 225)).alloc (.cells #[.pointer (some ⟨p, 0, none⟩)] 227)) := by
  subst hm hp ht
  have b1 := (Below.refl w.heap.size w).alloc (Nat.le_refl _) (.map #[] 0)
  have b2 := b1.alloc (by simp) (.cells #[.map (some w.heap.size), .slice none 0 0] 225)
  have b3 := b2.alloc (by simp; omega) (.cells #[.pointer (some ⟨w.heap.size + 1, 0, none⟩)] 227)
  have h2 := blk_new (w.alloc (.map #[] 0)) 225 #[.map (some w.heap.size), .slice none 0 0]
  simp only [World.size_alloc] at h2
  have h3 := blk_new ((w.alloc (.map #[] 0)).alloc (.cells #[.map (some w.heap.size), .slice none 0 0] 225)) 227 #[.pointer (some ⟨w.heap.size + 1, 0, none⟩)]
  simp only [World.size_alloc] at h3
  refine ⟨⟨w.heap.size + 1, w.heap.size, .slice none 0 0, h3, ⟨?_, ⟨rfl, .inl ⟨rfl, rfl⟩⟩, ?_⟩, by omega, ?_⟩, b3⟩
  · exact blk_on h2 ((Below.refl _ _).alloc (Nat.le_refl _) _)
  · exact mapN_keep (mapN_new w) ((((Below.refl _ _).alloc (Nat.le_refl _) _).alloc (by simp) _).block _ (by simp))
  · rintro b (rfl | rfl | h)
    · omega
    · omega
    · simp [Value.ownBlock] at h
theorem tnew_calls (w : World) :
    Calls Tryz.prog 79 #[] w fun e w' => ∃ t, e = .returned (.pointer (some ⟨t, 0, none⟩)) ∧ NmS (fun b => w.heap.size ≤ b) t [] w' ∧ Below w.heap.size w w' := by
  have hmk : ∀ w, (Instr.makeMap 223 none).run Tryz.prog w = .ok (.map (some w.heap.size)) (w.alloc (.map #[] 0)) := fun w => by simp [Instr.makeMap]
  go_enter Tryz.func79, Tryz.ntmps79
  go_wp2_with fail
  go_ret
  obtain ⟨h1, h2⟩ := ntwo_new w rfl rfl rfl
  exact ⟨_, rfl, h1, h2⟩
theorem tmade_calls {S : Nat → Prop} {t : Nat} {L : List ByteArray} (w : World) (h : NmS S t L w) :
    Calls Tryz.prog 167 #[.pointer (some ⟨t, 0, none⟩)] w fun e w' => e = .returned (.bool true) ∧ w' = w := by
  obtain ⟨p, m, v, h1, _⟩ := h
  have c0 : w.cell? ⟨t, 0, none⟩ = some (.pointer (some ⟨p, 0, none⟩)) := by rw [blk_cell h1]; rfl
  clear h1
  go_enter Tryz.func167, Tryz.ntmps167
  go_wp2_with fail
  go_ret
  exact ⟨rfl, rfl⟩
theorem tlen_calls {S : Nat → Prop} {t : Nat} {L : List ByteArray} (w : World) (h : NmS S t L w) :
    Calls Tryz.prog 178 #[.pointer (some ⟨t, 0, none⟩)] w fun e w' => e = .returned (.int .i64 (L.length : Int)) ∧ w' = w := by
  have H := hid h
  obtain ⟨p, m, v, h1, h2, _⟩ := h
  obtain ⟨ao, cap, rfl⟩ := row_shape h2.row
  obtain ⟨c1, c2⟩ := h2.cells
  have c0 : w.cell? ⟨t, 0, none⟩ = some (.pointer (some ⟨p, 0, none⟩)) := by rw [blk_cell h1]; rfl
  clear h1 h2
  go_enter Tryz.func178, Tryz.ntmps178
  go_wp2_with fail
  refine (tmade_calls _ H.out).mono ?_
  rintro e1 w1 ⟨rfl, rfl⟩
  go_wp2_with fail
  go_ret
  exact ⟨rfl, rfl⟩
theorem tfind_calls {S : Nat → Prop} {t : Nat} {L : List ByteArray} (w : World) (h : NmS S t L w) (s : ByteArray) (hs : s.size ≤ maxLen) :
    Calls Tryz.prog 164 #[.pointer (some ⟨t, 0, none⟩), .string s] w fun e w' => e = .returned (.tuple #[.int .i64 (findT L s : Int), .bool (atT L s).isSome]) ∧ w' = w := by
  have H := hid h
  obtain ⟨p, m, v, h1, h2, _⟩ := h
  obtain ⟨c1, c2⟩ := h2.cells
  have c0 : w.cell? ⟨t, 0, none⟩ = some (.pointer (some ⟨p, 0, none⟩)) := by rw [blk_cell h1]; rfl
  have HM := hid h2.map
  clear h1 h2
  cases hi : atT L s with
  | some i =>
    have hF : numF L s = some ((i + 1 : Nat) : Int) := by unfold numF; rw [hi]; rfl
    have hN : findT L s = i + 1 := by unfold findT; rw [hi]
    rw [hN]
    go_enter Tryz.func164, Tryz.ntmps164
    go_wp2_with fail
    refine (tmade_calls _ H.out).mono ?_
    rintro e1 w1 ⟨rfl, rfl⟩
    go_wp2_with (first | (at_lookup; refine gm_look underNt rfl _ _ rfl m _ _ s rfl HM.out rfl hs ?_; rw [hF]) | fail)
    go_ret2
    exact ⟨rfl, rfl⟩
  | none =>
    have hF : numF L s = none := by unfold numF; rw [hi]; rfl
    have hN : findT L s = 0 := by unfold findT; rw [hi]
    rw [hN]
    go_enter Tryz.func164, Tryz.ntmps164
    go_wp2_with fail
    refine (tmade_calls _ H.out).mono ?_
    rintro e1 w1 ⟨rfl, rfl⟩
    go_wp2_with (first | (at_lookup; refine gm_look underNt rfl _ _ rfl m _ _ s rfl HM.out rfl hs ?_; rw [hF]) | fail)
    go_ret2
    exact ⟨rfl, rfl⟩
/-- a text of the row -/
theorem row_text {v : Value} {L : List ByteArray} {i : Nat} {s : ByteArray} {w : World} (h : w.ownsRow 0 9 1 v L.length (L.map Value.string)) (hi : L[i]? = some s) : ∃ g cap, v = .slice (some ⟨g, 0, none⟩) L.length cap ∧ g < w.heap.size ∧ w.cell? ⟨g, i, none⟩ = some (.string s) := by
  have hl : i < L.length := (List.getElem?_eq_some_iff.1 hi).1
  obtain ⟨g, cap, rfl, _, hg⟩ := h.form (by omega)
  exact ⟨g, cap, rfl, hg, row_cell h (by simp [hi])⟩
theorem ttext_some {S : Nat → Prop} {t i : Nat} {L : List ByteArray} {s : ByteArray} (w : World) (h : NmS S t L w) (hi : L[i]? = some s) (hl : L.length ≤ 1000000) :
    Calls Tryz.prog 168 #[.pointer (some ⟨t, 0, none⟩), .int .i64 ((i : Int) + 1)] w fun e w' => e = .returned (.tuple #[.string s, .bool true]) ∧ w' = w := by
  have HL := hid (tlen_calls w h)
  have hil : i < L.length := (List.getElem?_eq_some_iff.1 hi).1
  obtain ⟨p, m, v, h1, h2, _⟩ := h
  obtain ⟨g, cap, rfl, hg, c3⟩ := row_text h2.row hi
  obtain ⟨c1, c2⟩ := h2.cells
  have c0 : w.cell? ⟨t, 0, none⟩ = some (.pointer (some ⟨p, 0, none⟩)) := by rw [blk_cell h1]; rfl
  have d1 : decide ((i : Int) + 1 < 1) = false := decide_eq_false (by omega)
  have d2 : decide ((L.length : Int) < (i : Int) + 1) = false := decide_eq_false (by omega)
  clear h1 h2 hi
  go_enter Tryz.func168, Tryz.ntmps168
  go_wp2_with fail
  refine HL.out.mono ?_
  rintro e1 w1 ⟨rfl, rfl⟩
  go_wp2_with fail
  go_ret2
  exact ⟨rfl, rfl⟩
theorem ttext_none {S : Nat → Prop} {t : Nat} {L : List ByteArray} (w : World) (h : NmS S t L w) (i : Int) (hi : ¬ (1 ≤ i ∧ i ≤ L.length)) :
    Calls Tryz.prog 168 #[.pointer (some ⟨t, 0, none⟩), .int .i64 i] w fun e w' => e = .returned (.tuple #[.string ⟨#[]⟩, .bool false]) ∧ w' = w := by
  have HL := hid (tlen_calls w h)
  clear h
  by_cases h0 : i < 1
  · clear hi
    go_enter Tryz.func168, Tryz.ntmps168
    go_wp2_with fail
    go_ret2
    exact ⟨rfl, rfl⟩
  · have d1 : decide (i < 1) = false := decide_eq_false h0
    have d2 : decide ((L.length : Int) < i) = true := decide_eq_true (by omega)
    clear hi h0
    go_enter Tryz.func168, Tryz.ntmps168
    go_wp2_with fail
    refine HL.out.mono ?_
    rintro e1 w1 ⟨rfl, rfl⟩
    go_wp2_with fail
    go_ret2
    exact ⟨rfl, rfl⟩

end Go.Proofs.YtimhgbcanmgajaaGreat
