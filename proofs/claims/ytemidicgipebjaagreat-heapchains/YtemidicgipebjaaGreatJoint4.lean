/- A table of texts in memory, and what it tells. Of: a text's number, a new one if it has none. -/
import Derived.Test.YtemidicgipebjaaGreatNmPlain
import Derived.BigQuiet
namespace Go.Proofs.YtemidicgipebjaaGreat
set_option linter.unusedSimpArgs false
open Go.RowKit

theorem underNt : Tryz.prog.underlying 154 = some (.map 9 3) := by kernel_rfl
theorem infoTx : ∃ i0, Tryz.prog.info? 9 = some i0 ∧ i0.zero = some (.string ⟨#[]⟩) ∧ i0.size = 1 ∧ i0.bytes = 16 :=
  info_parts (show (Tryz.prog.info? 9).map (fun i => (i.zero, i.size, i.bytes)) = some (some (.string ⟨#[]⟩), 1, 16) by kernel_rfl)
theorem underTx : Tryz.prog.underlying 62 = some (.slice 9) := by kernel_rfl

/-- the two ways at p: the map at m, the list is v -/
structure TwAt (p m : Nat) (v : Value) (L : List ByteArray) (w : World) : Prop where
  blk : Blk p 156 #[.map (some m), v] w
  row : w.ownsRow 0 9 1 v L.length (L.map Value.string)
  map : MapN m (numF L) L.length w
def FtT (p m : Nat) (v : Value) (b : Nat) : Prop := b = p ∨ b = m ∨ v.ownBlock = some b
theorem TwAt.keep {p m : Nat} {v : Value} {L : List ByteArray} {a c : World} (h : TwAt p m v L a) (hk : ∀ b, FtT p m v b → c.heap[b]? = a.heap[b]?) : TwAt p m v L c :=
  ⟨(hk p (.inl rfl)).trans h.blk, row_keep h.row (fun g hg => hk g (.inr (.inr hg))), mapN_keep h.map (hk m (.inr (.inl rfl)))⟩
theorem TwAt.lt {p m b : Nat} {v : Value} {L : List ByteArray} {w : World} (h : TwAt p m v L w) (hb : FtT p m v b) : b < w.heap.size := by
  rcases hb with rfl | rfl | hb
  · exact blk_lt h.blk
  · exact mapN_lt h.map
  · obtain ⟨cur, hc⟩ := row_lt h.row hb
    exact blk_lt hc
theorem TwAt.on {p m : Nat} {v : Value} {L : List ByteArray} {a c : World} (h : TwAt p m v L a) (k : Below a.heap.size a c) : TwAt p m v L c := h.keep fun b hb => k.block b (h.lt hb)
theorem TwAt.ne {p m : Nat} {v : Value} {L : List ByteArray} {w : World} (h : TwAt p m v L w) : m ≠ p ∧ (∀ g, v.ownBlock = some g → g ≠ p ∧ g ≠ m) := by
  obtain ⟨es, clock, hm⟩ := mapN_block h.map
  have hp : w.heap[p]? = _ := h.blk
  refine ⟨fun e => ?_, fun g hg => ⟨fun e => ?_, fun e => ?_⟩⟩
  · rw [e, hp] at hm; cases hm
  · obtain ⟨cur, hc⟩ := row_lt h.row hg
    unfold Blk at hc
    rw [e, hp] at hc; cases hc
  · obtain ⟨cur, hc⟩ := row_lt h.row hg
    unfold Blk at hc
    rw [e, hm] at hc; cases hc
theorem TwAt.drew {p m : Nat} {v : Value} {L : List ByteArray} {w : World} (h : TwAt p m v L w) : TwAt p m v L w.drew := h.on (Below.refl _ _).drew
theorem TwAt.cells {p m : Nat} {v : Value} {L : List ByteArray} {w : World} (h : TwAt p m v L w) : w.cell? ⟨p, 0, none⟩ = some (.map (some m)) ∧ w.cell? ⟨p, 1, none⟩ = some v :=
  ⟨by rw [blk_cell h.blk]; rfl, by rw [blk_cell h.blk]; rfl⟩

/-- a table at t, in the blocks of S: its texts are L -/
def NmS (S : Nat → Prop) (t : Nat) (L : List ByteArray) (w : World) : Prop :=
  ∃ p m v, Blk t 158 #[.pointer (some ⟨p, 0, none⟩)] w ∧ TwAt p m v L w ∧ S t ∧ ∀ b, FtT p m v b → S b
theorem NmS.mono {S T : Nat → Prop} {t : Nat} {L : List ByteArray} {w : World} (h : NmS S t L w) (hS : ∀ b, b < w.heap.size → S b → T b) : NmS T t L w := by
  obtain ⟨p, m, v, h1, h2, h3, h4⟩ := h
  exact ⟨p, m, v, h1, h2, hS t (blk_lt h1) h3, fun b hb => hS b (h2.lt hb) (h4 b hb)⟩
theorem NmS.keep {S T : Nat → Prop} {t : Nat} {L : List ByteArray} {a c : World} (h : NmS S t L a) (k : Keep T a c) (hT : ∀ b, b < a.heap.size → S b → ¬ T b) : NmS S t L c := by
  obtain ⟨p, m, v, h1, h2, h3, h4⟩ := h
  exact ⟨p, m, v, blk_keep h1 k (hT t (blk_lt h1) h3), h2.keep (fun b hb => k.block b (h2.lt hb) (hT b (h2.lt hb) (h4 b hb))), h3, h4⟩
theorem NmS.on {S : Nat → Prop} {t : Nat} {L : List ByteArray} {a c : World} (h : NmS S t L a) (k : Below a.heap.size a c) : NmS S t L c :=
  h.keep (T := fun _ => False) (Keep.of k) (fun _ _ _ h => h)
theorem NmS.lt {S : Nat → Prop} {t : Nat} {L : List ByteArray} {w : World} (h : NmS S t L w) : t < w.heap.size := by
  obtain ⟨p, m, v, h1, _⟩ := h
  exact blk_lt h1

theorem two_new (w : World) {m p t : Nat} (hm : m = w.heap.size) (hp : p = w.heap.size + 1) (ht : t = w.heap.size + 1 + 1) :
    NmS (fun b => w.heap.size ≤ b) t [] (((w.alloc (.map #[] 0)).alloc (.cells #[.map (some m), .slice none 0 0] 156)).alloc (.cells #[.pointer (some ⟨p, 0, none⟩)] 158)) ∧
      Below w.heap.size w (((w.alloc (.map #[] 0)).alloc (.cells #[.map (some m), .slice none 0 0] 156)).alloc (.cells #[.pointer (some ⟨p, 0, none⟩)] 158)) := by
  subst hm hp ht
  have b1 := (Below.refl w.heap.size w).alloc (Nat.le_refl _) (.map #[] 0)
  have b2 := b1.alloc (by simp) (.cells #[.map (some w.heap.size), .slice none 0 0] 156)
  have b3 := b2.alloc (by simp; omega) (.cells #[.pointer (some ⟨w.heap.size + 1, 0, none⟩)] 158)
  have h2 := blk_new (w.alloc (.map #[] 0)) 156 #[.map (some w.heap.size), .slice none 0 0]
  simp only [World.size_alloc] at h2
  have h3 := blk_new ((w.alloc (.map #[] 0)).alloc (.cells #[.map (some w.heap.size), .slice none 0 0] 156)) 158 #[.pointer (some ⟨w.heap.size + 1, 0, none⟩)]
  simp only [World.size_alloc] at h3
  refine ⟨⟨w.heap.size + 1, w.heap.size, .slice none 0 0, h3, ⟨?_, ⟨rfl, .inl ⟨rfl, rfl⟩⟩, ?_⟩, by omega, ?_⟩, b3⟩
  · exact blk_on h2 ((Below.refl _ _).alloc (Nat.le_refl _) _)
  · exact mapN_keep (mapN_new w) ((((Below.refl _ _).alloc (Nat.le_refl _) _).alloc (by simp) _).block _ (by simp))
  · rintro b (rfl | rfl | h)
    · omega
    · omega
    · simp [Value.ownBlock] at h
theorem tnew_calls (w : World) :
    Calls Tryz.prog 69 #[] w fun e w' => ∃ t, e = .returned (.pointer (some ⟨t, 0, none⟩)) ∧ NmS (fun b => w.heap.size ≤ b) t [] w' ∧ Below w.heap.size w w' := by
  have hmk : ∀ w, (Instr.makeMap 154 none).run Tryz.prog w = .ok (.map (some w.heap.size)) (w.alloc (.map #[] 0)) := fun w => by simp [Instr.makeMap]
  go_enter Tryz.func69, Tryz.ntmps69
  go_wp2_with fail
  go_ret
  obtain ⟨h1, h2⟩ := two_new w rfl rfl rfl
  exact ⟨_, rfl, h1, h2⟩
theorem tmade_calls {S : Nat → Prop} {t : Nat} {L : List ByteArray} (w : World) (h : NmS S t L w) :
    Calls Tryz.prog 110 #[.pointer (some ⟨t, 0, none⟩)] w fun e w' => e = .returned (.bool true) ∧ w' = w := by
  obtain ⟨p, m, v, h1, _⟩ := h
  have c0 : w.cell? ⟨t, 0, none⟩ = some (.pointer (some ⟨p, 0, none⟩)) := by rw [blk_cell h1]; rfl
  clear h1
  go_enter Tryz.func110, Tryz.ntmps110
  go_wp2_with fail
  go_ret
  exact ⟨rfl, rfl⟩
theorem tlen_calls {S : Nat → Prop} {t : Nat} {L : List ByteArray} (w : World) (h : NmS S t L w) :
    Calls Tryz.prog 142 #[.pointer (some ⟨t, 0, none⟩)] w fun e w' => e = .returned (.int .i64 (L.length : Int)) ∧ w' = w := by
  have H := hid h
  obtain ⟨p, m, v, h1, h2, _⟩ := h
  obtain ⟨ao, cap, rfl⟩ := row_shape h2.row
  obtain ⟨c1, c2⟩ := h2.cells
  have c0 : w.cell? ⟨t, 0, none⟩ = some (.pointer (some ⟨p, 0, none⟩)) := by rw [blk_cell h1]; rfl
  clear h1 h2
  go_enter Tryz.func142, Tryz.ntmps142
  go_wp2_with fail
  refine (tmade_calls _ H.out).mono ?_
  rintro e1 w1 ⟨rfl, rfl⟩
  go_wp2_with fail
  go_ret
  exact ⟨rfl, rfl⟩
theorem tfind_calls {S : Nat → Prop} {t : Nat} {L : List ByteArray} (w : World) (h : NmS S t L w) (s : ByteArray) (hs : s.size ≤ maxLen) :
    Calls Tryz.prog 87 #[.pointer (some ⟨t, 0, none⟩), .string s] w fun e w' => e = .returned (.tuple #[.int .i64 (findT L s : Int), .bool (atT L s).isSome]) ∧ w' = w := by
  have H := hid h
  obtain ⟨p, m, v, h1, h2, _⟩ := h
  obtain ⟨c1, c2⟩ := h2.cells
  have c0 : w.cell? ⟨t, 0, none⟩ = some (.pointer (some ⟨p, 0, none⟩)) := by rw [blk_cell h1]; rfl
  have HM := hid h2.map
  clear h1 h2
  cases hi : atT L s with
  | some i =>
    have hF : numF L s = some ((i + 1 : Nat) : Int) := by unfold numF; rw [hi]; rfl
    have hN : findT L s = i + 1 := by unfold findT; rw [hi]
    rw [hN]
    go_enter Tryz.func87, Tryz.ntmps87
    go_wp2_with fail
    refine (tmade_calls _ H.out).mono ?_
    rintro e1 w1 ⟨rfl, rfl⟩
    go_wp2_with (first | (at_lookup; refine gm_look underNt rfl _ _ rfl m _ _ s rfl HM.out rfl hs ?_; rw [hF]) | fail)
    go_ret2
    exact ⟨rfl, rfl⟩
  | none =>
    have hF : numF L s = none := by unfold numF; rw [hi]; rfl
    have hN : findT L s = 0 := by unfold findT; rw [hi]
    rw [hN]
    go_enter Tryz.func87, Tryz.ntmps87
    go_wp2_with fail
    refine (tmade_calls _ H.out).mono ?_
    rintro e1 w1 ⟨rfl, rfl⟩
    go_wp2_with (first | (at_lookup; refine gm_look underNt rfl _ _ rfl m _ _ s rfl HM.out rfl hs ?_; rw [hF]) | fail)
    go_ret2
    exact ⟨rfl, rfl⟩
/-- a text of the row -/
theorem row_text {v : Value} {L : List ByteArray} {i : Nat} {s : ByteArray} {w : World} (h : w.ownsRow 0 9 1 v L.length (L.map Value.string)) (hi : L[i]? = some s) : ∃ g cap, v = .slice (some ⟨g, 0, none⟩) L.length cap ∧ g < w.heap.size ∧ w.cell? ⟨g, i, none⟩ = some (.string s) := by
  have hl : i < L.length := (List.getElem?_eq_some_iff.1 hi).1
  obtain ⟨g, cap, rfl, _, hg⟩ := h.form (by omega)
  exact ⟨g, cap, rfl, hg, row_cell h (by simp [hi])⟩
theorem ttext_some {S : Nat → Prop} {t i : Nat} {L : List ByteArray} {s : ByteArray} (w : World) (h : NmS S t L w) (hi : L[i]? = some s) (hl : L.length ≤ 1000000) :
    Calls Tryz.prog 131 #[.pointer (some ⟨t, 0, none⟩), .int .i64 ((i : Int) + 1)] w fun e w' => e = .returned (.tuple #[.string s, .bool true]) ∧ w' = w := by
  have HL := hid (tlen_calls w h)
  have hil : i < L.length := (List.getElem?_eq_some_iff.1 hi).1
  obtain ⟨p, m, v, h1, h2, _⟩ := h
  obtain ⟨g, cap, rfl, hg, c3⟩ := row_text h2.row hi
  obtain ⟨c1, c2⟩ := h2.cells
  have c0 : w.cell? ⟨t, 0, none⟩ = some (.pointer (some ⟨p, 0, none⟩)) := by rw [blk_cell h1]; rfl
  have d1 : decide ((i : Int) + 1 < 1) = false := decide_eq_false (by omega)
  have d2 : decide ((L.length : Int) < (i : Int) + 1) = false := decide_eq_false (by omega)
  clear h1 h2 hi
  go_enter Tryz.func131, Tryz.ntmps131
  go_wp2_with fail
  refine HL.out.mono ?_
  rintro e1 w1 ⟨rfl, rfl⟩
  go_wp2_with fail
  go_ret2
  exact ⟨rfl, rfl⟩
theorem ttext_none {S : Nat → Prop} {t : Nat} {L : List ByteArray} (w : World) (h : NmS S t L w) (i : Int) (hi : ¬ (1 ≤ i ∧ i ≤ L.length)) :
    Calls Tryz.prog 131 #[.pointer (some ⟨t, 0, none⟩), .int .i64 i] w fun e w' => e = .returned (.tuple #[.string ⟨#[]⟩, .bool false]) ∧ w' = w := by
  have HL := hid (tlen_calls w h)
  clear h
  by_cases h0 : i < 1
  · clear hi
    go_enter Tryz.func131, Tryz.ntmps131
    go_wp2_with fail
    go_ret2
    exact ⟨rfl, rfl⟩
  · have d1 : decide (i < 1) = false := decide_eq_false h0
    have d2 : decide ((L.length : Int) < i) = true := decide_eq_true (by omega)
    clear hi h0
    go_enter Tryz.func131, Tryz.ntmps131
    go_wp2_with fail
    refine HL.out.mono ?_
    rintro e1 w1 ⟨rfl, rfl⟩
    go_wp2_with fail
    go_ret2
    exact ⟨rfl, rfl⟩

end Go.Proofs.YtemidicgipebjaaGreat

namespace Go.Proofs.YtemidicgipebjaaGreat
set_option linter.unusedSimpArgs false
set_option maxRecDepth 100000
open Go.RowKit

theorem tof_has {S : Nat → Prop} {t i : Nat} {L : List ByteArray} (w : World) (h : NmS S t L w) (s : ByteArray) (hs : s.size ≤ maxLen) (hi : atT L s = some i) :
    Calls Tryz.prog 97 #[.pointer (some ⟨t, 0, none⟩), .string s] w fun e w' => e = .returned (.int .i64 ((i + 1 : Nat) : Int)) ∧ w' = w := by
  have H := hid h
  obtain ⟨p, m, v, h1, h2, _⟩ := h
  obtain ⟨c1, c2⟩ := h2.cells
  have c0 : w.cell? ⟨t, 0, none⟩ = some (.pointer (some ⟨p, 0, none⟩)) := by rw [blk_cell h1]; rfl
  have HM := hid h2.map
  have hF : numF L s = some ((i + 1 : Nat) : Int) := by unfold numF; rw [hi]; rfl
  clear h1 h2 hi
  go_enter Tryz.func97, Tryz.ntmps97
  go_wp2_with fail
  refine (tmade_calls _ H.out).mono ?_
  rintro e1 w1 ⟨rfl, rfl⟩
  go_wp2_with (first | (at_lookup; refine gm_look underNt rfl _ _ rfl m _ _ s rfl HM.out rfl hs ?_; rw [hF]) | fail)
  go_ret
  exact ⟨rfl, rfl⟩

/-- behind the append and the store -/
theorem TwAt.more {p m g cap : Nat} {v : Value} {L : List ByteArray} {s : ByteArray} {w w3 : World} (h : TwAt p m v L w) (hk : Keep (FtT p m v) w w3) (hb3 : Blk p 156 #[.map (some m), v] w3) (hm3 : w3.heap[m]? = w.heap[m]?)
    (hgp : g ≠ p ∧ g ≠ m) (hown : w3.ownsRow 0 9 1 (.slice (some ⟨g, 0, none⟩) (L.length + 1) cap) (L.length + 1) (L.map Value.string ++ [.string s])) (hat : v.ownBlock = some g ∨ w.heap.size ≤ g) :
    let W := w3.setCell ⟨p, 1, none⟩ (.slice (some ⟨g, 0, none⟩) (L.length + 1) cap)
    Blk p 156 #[.map (some m), .slice (some ⟨g, 0, none⟩) (L.length + 1) cap] W ∧ W.ownsRow 0 9 1 (.slice (some ⟨g, 0, none⟩) (L.length + 1) cap) (L.length + 1) (L.map Value.string ++ [.string s]) ∧ MapN m (numF L) L.length W ∧ Keep (FtT p m v) w W ∧
      ∀ b, FtT p m (.slice (some ⟨g, 0, none⟩) (L.length + 1) cap) b → FtT p m v b ∨ w.heap.size ≤ b := by
  intro W
  have K3 : Keep (fun b => b = p) w3 W := Keep.set (S := fun b => b = p) rfl w3 1 _
  have hm3' : m < w3.heap.size := Nat.lt_of_lt_of_le (h.lt (b := m) (.inr (.inl rfl))) hk.size
  refine ⟨blk_set hb3 1 _, ?_, ?_, hk.trans K3 (fun b _ e => .inl e), ?_⟩
  · exact row_keep hown (fun k hk => by
      simp [Value.ownBlock] at hk
      subst hk
      obtain ⟨cur, hc⟩ := row_lt hown (g := g) rfl
      exact K3.block g (blk_lt hc) hgp.1)
  · exact mapN_keep (mapN_keep h.map hm3) (K3.block m hm3' h.ne.1)
  · rintro b (rfl | rfl | hb)
    · exact .inl (.inl rfl)
    · exact .inl (.inr (.inl rfl))
    · simp [Value.ownBlock] at hb
      subst hb
      rcases hat with h1 | h1
      · exact .inl (.inr (.inr h1))
      · exact .inr (by omega)
/-- the block of the table itself -/
theorem TwAt.far {p m d : Nat} {v : Value} {L : List ByteArray} {cs : Array Value} {T : TypeId} {w : World} (h1 : Blk d T cs w) (h : TwAt p m v L w) (t1 : T ≠ 156) (t2 : T ≠ 9) : ¬ FtT p m v d := by
  have hd : w.heap[d]? = _ := h1
  rintro (e | e | e)
  · have hb : w.heap[p]? = _ := h.blk
    rw [← e, hd] at hb
    injection hb with hb; injection hb with _ hb
    exact t1 hb
  · obtain ⟨es, clock, hm⟩ := mapN_block h.map
    rw [← e, hd] at hm; cases hm
  · obtain ⟨cur, hc⟩ := row_lt h.row e
    have hb : w.heap[d]? = _ := hc
    rw [hd] at hb
    injection hb with hb; injection hb with _ hb
    exact t2 hb

/-- behind the map's put -/
theorem NmS.put {S : Nat → Prop} {t p m g cap : Nat} {v : Value} {L : List ByteArray} {s : ByteArray} {w w4 w5 : World} (h : TwAt p m v L w) (hi : atT L s = none) (h3 : S t) (h4 : ∀ b, FtT p m v b → S b)
    (bt : Blk t 158 #[.pointer (some ⟨p, 0, none⟩)] w4) (bp : Blk p 156 #[.map (some m), .slice (some ⟨g, 0, none⟩) (L.length + 1) cap] w4)
    (rw4 : w4.ownsRow 0 9 1 (.slice (some ⟨g, 0, none⟩) (L.length + 1) cap) (L.length + 1) (L.map Value.string ++ [.string s])) (k4 : Keep (FtT p m v) w w4)
    (hf : ∀ b, FtT p m (.slice (some ⟨g, 0, none⟩) (L.length + 1) cap) b → FtT p m v b ∨ w.heap.size ≤ b) (hfar : ¬ FtT p m v t) (hgp : g ≠ p ∧ g ≠ m)
    (hM : MapN m (putF (numF L) s ((L.length + 1 : Nat) : Int)) (if (numF L s).isSome then L.length else L.length + 1) w5) (k5 : Keep (fun b => b = m) w4 w5) :
    NmS (Up S w) t (L ++ [s]) w5 ∧ Keep S w w5 ∧ Blk t 158 #[.pointer (some ⟨p, 0, none⟩)] w5 ∧ Blk p 156 #[.map (some m), .slice (some ⟨g, 0, none⟩) (L.length + 1) cap] w5 := by
  have htm : t ≠ m := fun e => hfar (.inr (.inl e))
  have bt5 := blk_keep bt k5 htm
  have bp5 := blk_keep bp k5 (fun e => h.ne.1 e.symm)
  have hl : (L ++ [s]).length = L.length + 1 := by simp
  refine ⟨⟨p, m, _, bt5, ⟨bp5, ?_, ?_⟩, .inl h3, fun b hb => ?_⟩, (k4.mono (fun b _ hb => h4 b hb)).trans k5 (fun b _ e => by subst e; exact h4 _ (.inr (.inl rfl))), bt5, bp5⟩
  · rw [hl, List.map_append]
    exact row_keep rw4 (fun k hk => by
      simp [Value.ownBlock] at hk
      subst hk
      obtain ⟨cur, hc⟩ := row_lt rw4 (g := g) rfl
      exact k5.block g (blk_lt hc) hgp.2)
  · rw [numF_some, hi] at hM
    rw [hl]
    exact mapN_ext hM (numF_snoc hi)
  · rcases hf b hb with h | h
    · exact .inl (h4 b h)
    · exact .inr h

set_option maxHeartbeats 2000000 in
theorem tof_new {S : Nat → Prop} {t : Nat} {L : List ByteArray} (w : World) (h : NmS S t L w) (s : ByteArray) (hs : s.size ≤ maxLen) (hi : atT L s = none) (hl : L.length ≤ 1000000) :
    Calls Tryz.prog 97 #[.pointer (some ⟨t, 0, none⟩), .string s] w fun e w' => e = .returned (.int .i64 ((L.length + 1 : Nat) : Int)) ∧ NmS (Up S w) t (L ++ [s]) w' ∧ Keep S w w' := by
  have H := hid h
  obtain ⟨i0, hi0, hz0, hz1, hz2⟩ := infoTx
  obtain ⟨p, m, v, h1, h2, h3, h4⟩ := h
  obtain ⟨ao, cap, rfl⟩ := row_shape h2.row
  obtain ⟨d1, d2⟩ := h2.cells
  have d0 : w.cell? ⟨t, 0, none⟩ = some (.pointer (some ⟨p, 0, none⟩)) := by rw [blk_cell h1]; rfl
  have HM := hid h2.map
  have HT := hid h2
  have HB := hid h1
  have hF : numF L s = none := by unfold numF; rw [hi]; rfl
  have HI := hid hi
  have hp := h2.lt (b := p) (.inl rfl)
  have ht := blk_lt h1
  have hFar := hid (TwAt.far h1 h2 (by decide) (by decide))
  have htp : t ≠ p := fun e => hFar.out (.inl e)
  have A := ((Below.refl w.heap.size w).drew.alloc (Nat.le_refl _) (Obj.cells #[.string s] 9))
  have HA := hid A
  have RW := hid (row_keep (c := (w.drew.alloc (Obj.cells #[.string s] 9))) h2.row (fun g hg => A.block g (h2.lt (.inr (.inr hg)))))
  have NW := hid (World.news_of_block (w := (w.drew.alloc (Obj.cells #[.string s] 9))) (show (w.drew.alloc (Obj.cells #[.string s] 9)).heap[w.heap.size]? = _ from heap_alloc_new w.drew (Obj.cells #[.string s] 9)))
  clear h1 h2 hi A
  go_enter Tryz.func97, Tryz.ntmps97
  go_wp2_with fail
  refine (tmade_calls _ H.out).mono ?_
  rintro e1 w1 ⟨rfl, rfl⟩
  go_wp2_with (first | (at_lookup; refine gm_look underNt rfl _ _ rfl m _ _ s rfl HM.out rfl hs ?_; rw [hF]) | fail)
  refine wp_region_held_drew (S := fun a => a.cell? ⟨t, 0, none⟩ = some (.pointer (some ⟨p, 0, none⟩))) (by kernel_rfl) d0 (fun hHeld => ?_)
  refine wpAnyH_take (i := 0) (v := ?v1) rfl (by kernel_rfl) (by kernel_rfl) (by kernel_rfl) (fun _ _ _ h => h) (Or.inl ⟨by rfl, ?hy1⟩) (by assumption) ?_
  case hy1 => (intro w hSw; go_simp <;> (try with_reducible rfl))
  simp only [Act.put, List.setIfInBounds_toArray, List.set_cons_zero, List.set_cons_succ, List.getElem_toArray, List.getElem_cons_succ, List.getElem_cons_zero]
  refine wpAnyH_take (i := 1) (v := ?v2) rfl (by kernel_rfl) (by kernel_rfl) (by kernel_rfl) (fun _ _ _ h => h) (Or.inl ⟨by rfl, ?hy2⟩) (by assumption) ?_
  case hy2 => (intro w hSw; go_simp <;> (try with_reducible rfl))
  simp only [Act.put, List.setIfInBounds_toArray, List.set_cons_zero, List.set_cons_succ, List.getElem_toArray, List.getElem_cons_succ, List.getElem_cons_zero]
  refine wpAnyH_take (i := 2) (v := ?v3) rfl (by kernel_rfl) (by kernel_rfl) (by kernel_rfl) (fun _ _ _ h => h) (Or.inl ⟨by rfl, ?hy3⟩) (by assumption) ?_
  case hy3 => (intro w hSw; go_simp <;> (try with_reducible rfl))
  simp only [Act.put, List.setIfInBounds_toArray, List.set_cons_zero, List.set_cons_succ, List.getElem_toArray, List.getElem_cons_succ, List.getElem_cons_zero]
  refine wpAnyH_take (i := 3) (v := ?v4) rfl (by kernel_rfl) (by kernel_rfl) (by kernel_rfl) (fun _ _ _ h => h) (Or.inl ⟨by rfl, ?hy4⟩) (by assumption) ?_
  case hy4 => (intro w hSw; go_simp <;> (try with_reducible rfl))
  simp only [Act.put, List.setIfInBounds_toArray, List.set_cons_zero, List.set_cons_succ, List.getElem_toArray, List.getElem_cons_succ, List.getElem_cons_zero]
  refine wpAnyH_take (i := 4) (v := ?v5) rfl (by kernel_rfl) (by kernel_rfl) (by kernel_rfl) (fun _ _ _ h => h) (Or.inl ⟨by rfl, ?hy5⟩) (by assumption) ?_
  case hy5 => (intro w hSw; go_simp <;> (try with_reducible rfl))
  simp only [Act.put, List.setIfInBounds_toArray, List.set_cons_zero, List.set_cons_succ, List.getElem_toArray, List.getElem_cons_succ, List.getElem_cons_zero]
  refine wpAnyH_take (i := 5) (v := ?v6) rfl (by kernel_rfl) (by kernel_rfl) (by kernel_rfl) (fun _ _ _ h => h) (Or.inl ⟨by rfl, ?hy6⟩) (by assumption) ?_
  case hy6 => (intro w hSw; go_simp <;> (try with_reducible rfl))
  simp only [Act.put, List.setIfInBounds_toArray, List.set_cons_zero, List.set_cons_succ, List.getElem_toArray, List.getElem_cons_succ, List.getElem_cons_zero]
  refine wpAnyH_take (i := 6) (v := ?v7) rfl (by kernel_rfl) (by kernel_rfl) (by kernel_rfl) (fun _ _ _ h => h) (Or.inl ⟨by rfl, ?hy7⟩) (by assumption) ?_
  case hy7 => (intro w hSw; go_simp <;> (try with_reducible rfl))
  simp only [Act.put, List.setIfInBounds_toArray, List.set_cons_zero, List.set_cons_succ, List.getElem_toArray, List.getElem_cons_succ, List.getElem_cons_zero]
  refine wpAnyH_take (i := 7) (v := ?v8) rfl (by kernel_rfl) (by kernel_rfl) (by kernel_rfl) (fun _ _ _ h => h) (Or.inl ⟨by rfl, ?hy8⟩) (by assumption) ?_
  case hy8 => (intro w hSw; go_simp <;> (try with_reducible rfl))
  simp only [Act.put, List.setIfInBounds_toArray, List.set_cons_zero, List.set_cons_succ, List.getElem_toArray, List.getElem_cons_succ, List.getElem_cons_zero]
  refine wpAnyH_take (i := 8) (v := ?v9) rfl (by kernel_rfl) (by kernel_rfl) (by kernel_rfl) (fun _ _ _ h => h) (Or.inl ⟨by rfl, ?hy9⟩) (by assumption) ?_
  case hy9 => (intro w hSw; go_simp <;> (try with_reducible rfl))
  simp only [Act.put, List.setIfInBounds_toArray, List.set_cons_zero, List.set_cons_succ, List.getElem_toArray, List.getElem_cons_succ, List.getElem_cons_zero]
  refine wpAnyH_take (i := 9) (v := ?v10) rfl (by kernel_rfl) (by kernel_rfl) (by kernel_rfl) (fun _ _ _ h => h) (Or.inl ⟨by rfl, ?hy10⟩) (by assumption) ?_
  case hy10 => (intro w hSw; go_simp <;> (try with_reducible rfl))
  simp only [Act.put, List.setIfInBounds_toArray, List.set_cons_zero, List.set_cons_succ, List.getElem_toArray, List.getElem_cons_succ, List.getElem_cons_zero]
  refine wpAnyH_take (i := 11) (v := ?v11) rfl (by kernel_rfl) (by kernel_rfl) (by kernel_rfl) (fun _ _ _ h => h) (Or.inl ⟨by rfl, ?hy11⟩) (by assumption) ?_
  case hy11 => (intro w hSw; go_simp <;> (try with_reducible rfl))
  simp only [Act.put, List.setIfInBounds_toArray, List.set_cons_zero, List.set_cons_succ, List.getElem_toArray, List.getElem_cons_succ, List.getElem_cons_zero]
  refine wpAnyH_ready (rs := [10, 12]) (by kernel_rfl) (by simp) ?_
  refine AllReadyH.cons rfl (fun K hK => ?_) (AllReadyH.cons rfl (fun K hK => ?_) AllReadyH.nil)
  go_simp
  refine hK.out _ _ d0 (fun _ => ?_)
  clear hK K
  refine wpAnyH_ready (rs := [12]) (by kernel_rfl) (by simp) ?_
  refine AllReadyH.cons rfl (fun K hK => ?_) AllReadyH.nil
  go_simp
  refine hK.out _ _ (by go_simp) (fun _ => ?_)
  clear hK K
  rotate_left 1
  go_simp
  refine hK.out _ _ (by go_simp) (fun _ => ?_)
  clear hK K
  refine wpAnyH_ready (rs := [10]) (by kernel_rfl) (by simp) ?_
  refine AllReadyH.cons rfl (fun K hK => ?_) AllReadyH.nil
  go_simp
  refine hK.out _ _ (by go_simp) (fun _ => ?_)
  clear hK K
  rotate_left 1
  all_goals
    refine wpAnyH_ready (rs := [13]) (by kernel_rfl) (by simp) ?_
    refine AllReadyH.cons rfl (fun K hK => ?_) AllReadyH.nil
    refine step_append_lies _ rfl _ _ 62 rfl 0 9 i0 _ 1 16 underTx hi0 hz0 hz1 hz2 rfl (by decide) (.slice ao L.length cap) L.length (L.map Value.string) rfl RW.out ⟨w1.heap.size, 0, none⟩ 1 1 [.string s] rfl rfl NW.out (by intro u hu; simp at hu; subst hu; rfl) (by decide) (by unfold maxLen; omega) (by omega) (Nat.zero_le _) (w1.heap.size + 1) (by simp) ?_
    intro g cp w3 hown hgrow hat hlt
    have k3 : Keep (FtT p m (.slice ao L.length cap)) w1 w3 := (Keep.of HA.out).trans (Keep.grown hgrow (fun k hk => .inr (.inr hk))) (fun _ _ e => e)
    have fr : ∀ b, b < w1.heap.size → (Value.slice ao L.length cap).ownBlock ≠ some b → w3.heap[b]? = w1.heap[b]? := fun b hb hne =>
      ((Keep.of (S := fun c => (Value.slice ao L.length cap).ownBlock = some c) HA.out).trans (Keep.grown hgrow (fun k hk => hk)) (fun _ _ e => e)).block b hb hne
    have hat2 : (Value.slice ao L.length cap).ownBlock = some g ∨ w1.heap.size ≤ g := by
      rcases hat with h | h
      · exact .inl h
      · exact .inr (by have := HA.out.size; omega)
    have hb3 : Blk p 156 #[.map (some m), .slice ao L.length cap] w3 := (fr p hp (fun e => (HT.out.ne.2 p e).1 rfl)).trans HT.out.blk
    have hgp : g ≠ p ∧ g ≠ m := by
      rcases hat2 with h | h
      · exact HT.out.ne.2 g h
      · have := HT.out.lt (b := m) (.inr (.inl rfl))
        omega
    have bt3 : Blk t 158 #[.pointer (some ⟨p, 0, none⟩)] w3 := blk_keep HB.out k3 hFar.out
    have W := hid (HT.out.more (s := s) k3 hb3 (fr m (HT.out.lt (.inr (.inl rfl))) (fun e => (HT.out.ne.2 m e).2 rfl)) hgp hown hat2)
    have BT := hid bt3
    have q0 : w3.cell? ⟨t, 0, none⟩ = some (.pointer (some ⟨p, 0, none⟩)) := by rw [blk_cell bt3]; rfl
    have q1 : w3.cell? ⟨p, 1, none⟩ = some (.slice ao L.length cap) := by rw [blk_cell hb3]; rfl
    have q2 : w3.cell? ⟨p, 0, none⟩ = some (.map (some m)) := by rw [blk_cell hb3]; rfl
    have q3 : w3.frozen? ⟨p, 1, none⟩ = false := blk_free hb3 1
    refine hK.out _ _ q0 (fun _ => ?_)
    clear hK K hown hgrow k3 fr hb3 bt3 hat hat2
    simp only [Act.put, List.setIfInBounds_toArray, List.set_cons_zero, List.set_cons_succ, List.getElem_toArray, List.getElem_cons_succ, List.getElem_cons_zero]
    refine wpAnyH_take (i := 14) (v := ?_) rfl (by kernel_rfl) (by kernel_rfl) (by kernel_rfl) (fun _ _ _ h => h) (Or.inl ⟨by rfl, ?_⟩) (by assumption) ?_
    rotate_left 1
    · (intro w hSw; go_simp <;> (try with_reducible rfl))
    simp only [Act.put, List.setIfInBounds_toArray, List.set_cons_zero, List.set_cons_succ, List.getElem_toArray, List.getElem_cons_succ, List.getElem_cons_zero]
    refine wpAnyH_take (i := 15) (v := ?_) rfl (by kernel_rfl) (by kernel_rfl) (by kernel_rfl) (fun _ _ _ h => h) (Or.inl ⟨by rfl, ?_⟩) (by assumption) ?_
    rotate_left 1
    · (intro w hSw; go_simp <;> (try with_reducible rfl))
    simp only [Act.put, List.setIfInBounds_toArray, List.set_cons_zero, List.set_cons_succ, List.getElem_toArray, List.getElem_cons_succ, List.getElem_cons_zero]
    refine wpAnyH_ready (rs := [16]) (by kernel_rfl) (by simp) ?_
    refine AllReadyH.cons rfl (fun K hK => ?_) AllReadyH.nil
    go_simp
    obtain ⟨x1, x2, x3, x4, x5⟩ := W.out
    have bt4 : Blk t 158 #[.pointer (some ⟨p, 0, none⟩)] (w3.setCell ⟨p, 1, none⟩ (.slice (some ⟨g, 0, none⟩) (L.length + 1) cp)) := blk_keep BT.out (Keep.set (S := fun b => b = p) rfl w3 1 _) htp
    have X1 := hid x1
    have X2 := hid x2
    have X3 := hid x3
    have X4 := hid x4
    have X5 := hid x5
    have X6 := hid bt4
    have r0 : (w3.setCell ⟨p, 1, none⟩ (.slice (some ⟨g, 0, none⟩) (L.length + 1) cp)).cell? ⟨t, 0, none⟩ = some (.pointer (some ⟨p, 0, none⟩)) := by rw [blk_cell bt4]; rfl
    have r1 : (w3.setCell ⟨p, 1, none⟩ (.slice (some ⟨g, 0, none⟩) (L.length + 1) cp)).cell? ⟨p, 1, none⟩ = some (.slice (some ⟨g, 0, none⟩) (L.length + 1) cp) := by rw [blk_cell x1]; rfl
    have r2 : (w3.setCell ⟨p, 1, none⟩ (.slice (some ⟨g, 0, none⟩) (L.length + 1) cp)).cell? ⟨p, 0, none⟩ = some (.map (some m)) := by rw [blk_cell x1]; rfl
    clear x1 x2 x3 x4 x5 bt4 W BT q0 q1 q2 q3
    refine hK.out _ _ r0 (fun _ => ?_)
    clear hK K hHeld
    refine wpAnyH_done (by kernel_rfl) ?_ _
    generalize w3.setCell ⟨p, 1, none⟩ (.slice (some ⟨g, 0, none⟩) (L.length + 1) cp) = w4 at *
    go_wp2_with fail
    refine wp_region_held_drew (S := fun a => a.cell? ⟨t, 0, none⟩ = some (.pointer (some ⟨p, 0, none⟩)) ∧ a.cell? ⟨p, 0, none⟩ = some (.map (some m)) ∧ a.cell? ⟨p, 1, none⟩ = some (.slice (some ⟨g, 0, none⟩) (L.length + 1) cp)) (by kernel_rfl) ⟨r0, r2, r1⟩ (fun hHeld => ?_)
    refine wpAnyH_take (i := 0) (v := ?_) rfl (by kernel_rfl) (by kernel_rfl) (by kernel_rfl) (fun _ _ _ h => h) (Or.inl ⟨by rfl, ?_⟩) (by assumption) ?_
    rotate_left 1
    · (intro w hSw; go_simp <;> (try with_reducible rfl))
    simp only [Act.put, List.setIfInBounds_toArray, List.set_cons_zero, List.set_cons_succ, List.getElem_toArray, List.getElem_cons_succ, List.getElem_cons_zero]
    refine wpAnyH_take (i := 1) (v := ?_) rfl (by kernel_rfl) (by kernel_rfl) (by kernel_rfl) (fun _ _ _ h => h) (Or.inl ⟨by rfl, ?_⟩) (by assumption) ?_
    rotate_left 1
    · (intro w hSw; go_simp <;> (try with_reducible rfl))
    simp only [Act.put, List.setIfInBounds_toArray, List.set_cons_zero, List.set_cons_succ, List.getElem_toArray, List.getElem_cons_succ, List.getElem_cons_zero]
    refine wpAnyH_take (i := 2) (v := ?_) rfl (by kernel_rfl) (by kernel_rfl) (by kernel_rfl) (fun _ _ _ h => h) (Or.inl ⟨by rfl, ?_⟩) (by assumption) ?_
    rotate_left 1
    · (intro w hSw; go_simp <;> (try with_reducible rfl))
    simp only [Act.put, List.setIfInBounds_toArray, List.set_cons_zero, List.set_cons_succ, List.getElem_toArray, List.getElem_cons_succ, List.getElem_cons_zero]
    refine wpAnyH_take (i := 3) (v := ?_) rfl (by kernel_rfl) (by kernel_rfl) (by kernel_rfl) (fun _ _ _ h => h) (Or.inl ⟨by rfl, ?_⟩) (by assumption) ?_
    rotate_left 1
    · (intro w hSw; go_simp <;> (try with_reducible rfl))
    simp only [Act.put, List.setIfInBounds_toArray, List.set_cons_zero, List.set_cons_succ, List.getElem_toArray, List.getElem_cons_succ, List.getElem_cons_zero]
    refine wpAnyH_take (i := 4) (v := ?_) rfl (by kernel_rfl) (by kernel_rfl) (by kernel_rfl) (fun _ _ _ h => h) (Or.inl ⟨by rfl, ?_⟩) (by assumption) ?_
    rotate_left 1
    · (intro w hSw; go_simp <;> (try with_reducible rfl))
    simp only [Act.put, List.setIfInBounds_toArray, List.set_cons_zero, List.set_cons_succ, List.getElem_toArray, List.getElem_cons_succ, List.getElem_cons_zero]
    refine wpAnyH_take (i := 5) (v := ?_) rfl (by kernel_rfl) (by kernel_rfl) (by kernel_rfl) (fun _ _ _ h => h) (Or.inl ⟨by rfl, ?_⟩) (by assumption) ?_
    rotate_left 1
    · (intro w hSw; go_simp <;> (try with_reducible rfl))
    simp only [Act.put, List.setIfInBounds_toArray, List.set_cons_zero, List.set_cons_succ, List.getElem_toArray, List.getElem_cons_succ, List.getElem_cons_zero]
    refine wpAnyH_take (i := 6) (v := ?_) rfl (by kernel_rfl) (by kernel_rfl) (by kernel_rfl) (fun _ _ _ h => h) (Or.inl ⟨by rfl, ?_⟩) (by assumption) ?_
    rotate_left 1
    · (intro w hSw; go_simp <;> (try with_reducible rfl))
    simp only [Act.put, List.setIfInBounds_toArray, List.set_cons_zero, List.set_cons_succ, List.getElem_toArray, List.getElem_cons_succ, List.getElem_cons_zero]
    refine wpAnyH_take (i := 7) (v := ?_) rfl (by kernel_rfl) (by kernel_rfl) (by kernel_rfl) (fun _ _ _ h => h) (Or.inl ⟨by rfl, ?_⟩) (by assumption) ?_
    rotate_left 1
    · (intro w hSw; go_simp <;> (try with_reducible rfl))
    simp only [Act.put, List.setIfInBounds_toArray, List.set_cons_zero, List.set_cons_succ, List.getElem_toArray, List.getElem_cons_succ, List.getElem_cons_zero]
    refine wpAnyH_take (i := 8) (v := ?_) rfl (by kernel_rfl) (by kernel_rfl) (by kernel_rfl) (fun _ _ _ h => h) (Or.inl ⟨by rfl, ?_⟩) (by assumption) ?_
    rotate_left 1
    · (intro w hSw; go_simp <;> (try with_reducible rfl))
    simp only [Act.put, List.setIfInBounds_toArray, List.set_cons_zero, List.set_cons_succ, List.getElem_toArray, List.getElem_cons_succ, List.getElem_cons_zero]
    refine wpAnyH_take (i := 9) (v := ?_) rfl (by kernel_rfl) (by kernel_rfl) (by kernel_rfl) (fun _ _ _ h => h) (Or.inl ⟨by rfl, ?_⟩) (by assumption) ?_
    rotate_left 1
    · (intro w hSw; go_simp <;> (try with_reducible rfl))
    simp only [Act.put, List.setIfInBounds_toArray, List.set_cons_zero, List.set_cons_succ, List.getElem_toArray, List.getElem_cons_succ, List.getElem_cons_zero]
    refine wpAnyH_take (i := 10) (v := ?_) rfl (by kernel_rfl) (by kernel_rfl) (by kernel_rfl) (fun _ _ _ h => h) (Or.inl ⟨by rfl, ?_⟩) (by assumption) ?_
    rotate_left 1
    · (intro w hSw; go_simp <;> (try with_reducible rfl))
    simp only [Act.put, List.setIfInBounds_toArray, List.set_cons_zero, List.set_cons_succ, List.getElem_toArray, List.getElem_cons_succ, List.getElem_cons_zero]
    refine wpAnyH_take (i := 11) (v := ?_) rfl (by kernel_rfl) (by kernel_rfl) (by kernel_rfl) (fun _ _ _ h => h) (Or.inl ⟨by rfl, ?_⟩) (by assumption) ?_
    rotate_left 1
    · (intro w hSw; go_simp <;> (try with_reducible rfl))
    simp only [Act.put, List.setIfInBounds_toArray, List.set_cons_zero, List.set_cons_succ, List.getElem_toArray, List.getElem_cons_succ, List.getElem_cons_zero]
    refine wpAnyH_take (i := 12) (v := ?_) rfl (by kernel_rfl) (by kernel_rfl) (by kernel_rfl) (fun _ _ _ h => h) (Or.inl ⟨by rfl, ?_⟩) (by assumption) ?_
    rotate_left 1
    · (intro w hSw; go_simp <;> (try with_reducible rfl))
    simp only [Act.put, List.setIfInBounds_toArray, List.set_cons_zero, List.set_cons_succ, List.getElem_toArray, List.getElem_cons_succ, List.getElem_cons_zero]
    refine wpAnyH_take (i := 13) (v := ?_) rfl (by kernel_rfl) (by kernel_rfl) (by kernel_rfl) (fun _ _ _ h => h) (Or.inl ⟨by rfl, ?_⟩) (by assumption) ?_
    rotate_left 1
    · (intro w hSw; go_simp <;> (try with_reducible rfl))
    simp only [Act.put, List.setIfInBounds_toArray, List.set_cons_zero, List.set_cons_succ, List.getElem_toArray, List.getElem_cons_succ, List.getElem_cons_zero]
    refine wpAnyH_take (i := 14) (v := ?_) rfl (by kernel_rfl) (by kernel_rfl) (by kernel_rfl) (fun _ _ _ h => h) (Or.inl ⟨by rfl, ?_⟩) (by assumption) ?_
    rotate_left 1
    · (intro w hSw; go_simp <;> (try with_reducible rfl))
    simp only [Act.put, List.setIfInBounds_toArray, List.set_cons_zero, List.set_cons_succ, List.getElem_toArray, List.getElem_cons_succ, List.getElem_cons_zero]
    refine wpAnyH_take (i := 15) (v := ?_) rfl (by kernel_rfl) (by kernel_rfl) (by kernel_rfl) (fun _ _ _ h => h) (Or.inl ⟨by rfl, ?_⟩) (by assumption) ?_
    rotate_left 1
    · (intro w hSw; go_simp <;> (try with_reducible rfl))
    simp only [Act.put, List.setIfInBounds_toArray, List.set_cons_zero, List.set_cons_succ, List.getElem_toArray, List.getElem_cons_succ, List.getElem_cons_zero]
    refine wpAnyH_ready (rs := [16]) (by kernel_rfl) (by simp) ?_
    refine AllReadyH.cons rfl (fun K hK => ?_) AllReadyH.nil
    refine gm_step underNt rfl _ _ _ rfl m _ _ s ((L.length + 1 : Nat) : Int) rfl (mapN_keep X3.out rfl) (by unfold maxLen; omega) rfl hs rfl (WalkArith.wf_i64 (by omega)) ?_
    intro w5 hM5 g5
    have k5 : Keep (fun b => b = m) w4 w5 := (Keep.drew _ w4).trans (Keep.grown g5 (fun k hk => (Option.some.inj hk).symm)) (fun _ _ e => e)
    have RR := hid (NmS.put HT.out HI.out h3 h4 X6.out X1.out X2.out X4.out X5.out hFar.out hgp hM5 k5)
    have y0 : w5.cell? ⟨t, 0, none⟩ = some (.pointer (some ⟨p, 0, none⟩)) := by rw [blk_cell RR.out.2.2.1]; rfl
    have y1 : w5.cell? ⟨p, 0, none⟩ = some (.map (some m)) := by rw [blk_cell RR.out.2.2.2]; rfl
    have y2 : w5.cell? ⟨p, 1, none⟩ = some (.slice (some ⟨g, 0, none⟩) (L.length + 1) cp) := by rw [blk_cell RR.out.2.2.2]; rfl
    refine hK.out _ _ ⟨y0, y1, y2⟩ (fun _ => ?_)
    clear hK K hHeld hM5 g5 k5 X1 X2 X3 X4 X5 X6
    refine wpAnyH_done (by kernel_rfl) ?_ _
    go_wp2_with fail
    go_ret
    exact ⟨by simp, RR.out.1, RR.out.2.1⟩
theorem tof_calls {S : Nat → Prop} {t : Nat} {L : List ByteArray} (w : World) (h : NmS S t L w) (s : ByteArray) (hs : s.size ≤ maxLen) (hl : L.length ≤ 1000000) :
    Calls Tryz.prog 97 #[.pointer (some ⟨t, 0, none⟩), .string s] w fun e w' => e = .returned (.int .i64 (numT L s : Int)) ∧ NmS (Up S w) t (ofT L s) w' ∧ Keep S w w' := by
  cases hi : atT L s with
  | some i =>
    rw [show numT L s = i + 1 from by unfold numT; rw [hi], show ofT L s = L from by unfold ofT; rw [hi]; rfl]
    exact (tof_has w h s hs hi).mono fun e w' ⟨h1, h2⟩ => by subst h2; exact ⟨h1, h.mono (fun b _ hb => .inl hb), Keep.refl _ _⟩
  | none =>
    rw [show numT L s = L.length + 1 from by unfold numT; rw [hi], show ofT L s = L ++ [s] from by unfold ofT; rw [hi]; rfl]
    exact tof_new w h s hs hi hl

end Go.Proofs.YtemidicgipebjaaGreat
