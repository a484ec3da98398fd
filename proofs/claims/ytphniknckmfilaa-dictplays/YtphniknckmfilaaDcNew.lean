/- New places, and a new dict. -/
import Derived.Test.YtphniknckmfilaaDcPls
namespace Go.Proofs.Ytphniknckmfilaa
set_option linter.unusedSimpArgs false
open Go.RowKit

theorem infoP : ∃ i0, Try.prog.info? 62 = some i0 ∧ i0.zero = some (.agg #[.bool false, .string ⟨#[]⟩, .int .i64 0, .int .i64 0, .string ⟨#[]⟩]) ∧ i0.size = 5 ∧ i0.bytes = 56 :=
  info_parts (show (Try.prog.info? 62).map (fun i => (i.zero, i.size, i.bytes)) = some (some (.agg #[.bool false, .string ⟨#[]⟩, .int .i64 0, .int .i64 0, .string ⟨#[]⟩]), 5, 56) by kernel_rfl)
theorem underP : Try.prog.underlying 56 = some (.slice 62) := by kernel_rfl
theorem infoS : ∃ i0, Try.prog.info? 9 = some i0 ∧ i0.zero = some (.string ⟨#[]⟩) ∧ i0.size = 1 ∧ i0.bytes = 16 :=
  info_parts (show (Try.prog.info? 9).map (fun i => (i.zero, i.size, i.bytes)) = some (some (.string ⟨#[]⟩), 1, 16) by kernel_rfl)
theorem underS : Try.prog.underlying 26 = some (.slice 9) := by kernel_rfl

/-- make([]T, 0, c) as a step of a region that draws -/
theorem step_make {ops : Array Oper} {o : Oper} {a : Act} {K : Act → World → Prop} {Q : Exit → Act → World → Prop} {E : Prop} {w : World} (hg : o.guard = none) (x y : Operand) (t e : TypeId) (hop : o.op = Op.makeSlice t x y)
    (i : TypeInfo) (z : Value) (size bytes c : Nat) (ht : Try.prog.underlying t = some (.slice e)) (hi : Try.prog.info? e = some i) (hz : i.zero = some z) (hs : i.size = size) (hb : i.bytes = bytes) (hx : a.eval x = .int .i64 0) (hy : a.eval y = .int .i64 (c : Int))
    (hc : c ≤ 1000000) (hsm : bytes ≤ 1000)
    (hK : ∀ cur : Array Value, cur.size = c * size → K (a.put o.dst (.slice (some ⟨w.heap.size, 0, none⟩) 0 c)) (w.alloc (.cells cur e))) : if Region.wanted o (yielded ops a.tmps) = true then Oper.wp Try.prog o a w K Q else E := by
  rw [if_pos (by simp [Region.wanted, hg])]
  have hb2 : (i.bytes : Int) * (c : Int) ≤ 281474976710656 := by
    rw [hb]
    have h1 : ((bytes * c : Nat) : Int) ≤ ((1000 * 1000000 : Nat) : Int) := Int.ofNat_le.2 (Nat.mul_le_mul hsm hc)
    rw [Int.natCast_mul] at h1
    omega
  have hr := run_make (P := Try.prog) w t e i z ht hi hz .i64 .i64 0 c (Int.le_refl _) (by omega) hb2 (by omega)
  simp only [Int.toNat_zero, Int.toNat_natCast] at hr
  unfold Oper.wp
  simp [execOp, hop, hx, hy, hr, Result.andThen]
  exact hK _ (by rw [size_madeCells, hs])
theorem wp_make {ops : Array Oper} {rest : List Oper} {o : Oper} {a : Act} {Q : Exit → Act → World → Prop} {w : World} (hg : o.guard = none) (x y : Operand) (t e : TypeId) (hop : o.op = Op.makeSlice t x y)
    (i : TypeInfo) (z : Value) (size bytes c : Nat) (ht : Try.prog.underlying t = some (.slice e)) (hi : Try.prog.info? e = some i) (hz : i.zero = some z) (hs : i.size = size) (hb : i.bytes = bytes) (hx : a.eval x = .int .i64 0) (hy : a.eval y = .int .i64 (c : Int))
    (hc : c ≤ 1000000) (hsm : bytes ≤ 1000)
    (hK : ∀ cur : Array Value, cur.size = c * size → wpList Try.prog ops Q rest (a.put o.dst (.slice (some ⟨w.heap.size, 0, none⟩) 0 c)) (w.alloc (.cells cur e))) : wpList Try.prog ops Q (o :: rest) a w :=
  wpList_plain hg fun _ hK' => by
    have := step_make (ops := ops) (E := False) (Q := Q) hg x y t e hop i z size bytes c ht hi hz hs hb hx hy hc hsm (fun cur hcur => hK' _ _ (hK cur hcur))
    rwa [if_pos (by simp [Region.wanted, hg])] at this
/-- make(map[string]int, n) -/
theorem step_mmap {ops : Array Oper} {o : Oper} {a : Act} {K : Act → World → Prop} {Q : Exit → Act → World → Prop} {E : Prop} {w : World} (hg : o.guard = none) (y : Operand) (hop : o.op = Op.makeMap 57 (some y))
    (c : Nat) (hy : a.eval y = .int .i64 (c : Int))
    (hK : K (a.put o.dst (.map (some w.heap.size))) (w.alloc (.map #[] 0))) : if Region.wanted o (yielded ops a.tmps) = true then Oper.wp Try.prog o a w K Q else E := by
  rw [if_pos (by simp [Region.wanted, hg])]
  unfold Oper.wp
  simp [execOp, hop, hy, Instr.makeMap, Result.andThen]
  exact hK
theorem row_made {T : TypeId} {z c g : Nat} {cur : Array Value} {w : World} (h : Blk g T cur w) (hc : cur.size = c * z) (hl : c ≤ 1000000) : w.ownsRow 0 T z (.slice (some ⟨g, 0, none⟩) 0 c) 0 [] :=
  ⟨by simp, .inr ⟨g, c, cur, rfl, Nat.zero_le _, h, Nat.zero_le _, by unfold maxLen; omega, hc, by simp⟩⟩

theorem new_one {w : World} {cur : Array Value} {c : Nat} (hcur : cur.size = c * 5) (hc : c ≤ 1000000) {g m p : Nat} (hg : g = w.heap.size) (hm : m = w.heap.size + 1) (hp : p = w.heap.size + 1 + 1) :
    ∃ v' m', PlAt p v' m' [] (((w.alloc (.cells cur 62)).alloc (.map #[] 0)).alloc (.cells #[.slice (some ⟨g, 0, none⟩) 0 c, .map (some m)] 59)).drew ∧
      Below w.heap.size w (((w.alloc (.cells cur 62)).alloc (.map #[] 0)).alloc (.cells #[.slice (some ⟨g, 0, none⟩) 0 c, .map (some m)] 59)).drew ∧ ∀ b, FtP p v' m' b → w.heap.size ≤ b := by
  subst hg hm hp
  have b1 := (Below.refl w.heap.size w).alloc (Nat.le_refl _) (.cells cur 62)
  have b2 := b1.alloc (by simp) (.map #[] 0)
  have b3 := b2.alloc (by simp; omega) (.cells #[.slice (some ⟨w.heap.size, 0, none⟩) 0 c, .map (some (w.heap.size + 1))] 59)
  have h2 : Below (w.alloc (.cells cur 62)).heap.size (w.alloc (.cells cur 62)) (((w.alloc (.cells cur 62)).alloc (.map #[] 0)).alloc (.cells #[.slice (some ⟨w.heap.size, 0, none⟩) 0 c, .map (some (w.heap.size + 1))] 59)).drew :=
    (((Below.refl _ _).alloc (Nat.le_refl _) _).alloc (by simp) _).drew
  refine ⟨_, w.heap.size + 1, ⟨?_, row_made (blk_on (blk_new w _ cur) h2) hcur hc, ?_, okL_nil⟩, b3.drew, ?_⟩
  · have := blk_new ((w.alloc (.cells cur 62)).alloc (.map #[] 0)) 59 #[.slice (some ⟨w.heap.size, 0, none⟩) 0 c, .map (some (w.heap.size + 1))]
    simp only [World.size_alloc] at this
    exact this
  · have := mapN_new (w.alloc (.cells cur 62))
    simp only [World.size_alloc] at this
    exact mapN_keep this ((((Below.refl _ _).alloc (Nat.le_refl _) _).drew).block _ (by simp))
  · rintro b (rfl | rfl | h)
    · omega
    · omega
    · simp [Value.ownBlock] at h; omega
theorem new_other {w : World} {cur : Array Value} {c : Nat} (hcur : cur.size = c * 5) (hc : c ≤ 1000000) {g m p : Nat} (hm : m = w.heap.size) (hg : g = w.heap.size + 1) (hp : p = w.heap.size + 1 + 1) :
    ∃ v' m', PlAt p v' m' [] (((w.alloc (.map #[] 0)).alloc (.cells cur 62)).alloc (.cells #[.slice (some ⟨g, 0, none⟩) 0 c, .map (some m)] 59)).drew ∧
      Below w.heap.size w (((w.alloc (.map #[] 0)).alloc (.cells cur 62)).alloc (.cells #[.slice (some ⟨g, 0, none⟩) 0 c, .map (some m)] 59)).drew ∧ ∀ b, FtP p v' m' b → w.heap.size ≤ b := by
  subst hg hm hp
  have b1 := (Below.refl w.heap.size w).alloc (Nat.le_refl _) (.map #[] 0)
  have b2 := b1.alloc (by simp) (.cells cur 62)
  have b3 := b2.alloc (by simp; omega) (.cells #[.slice (some ⟨w.heap.size + 1, 0, none⟩) 0 c, .map (some w.heap.size)] 59)
  have hb := blk_new (w.alloc (.map #[] 0)) 62 cur
  simp only [World.size_alloc] at hb
  refine ⟨_, w.heap.size, ⟨?_, row_made (blk_on hb (((Below.refl _ _).alloc (Nat.le_refl _) _).drew)) hcur hc, ?_, okL_nil⟩, b3.drew, ?_⟩
  · have := blk_new ((w.alloc (.map #[] 0)).alloc (.cells cur 62)) 59 #[.slice (some ⟨w.heap.size + 1, 0, none⟩) 0 c, .map (some w.heap.size)]
    simp only [World.size_alloc] at this
    exact this
  · exact mapN_keep (mapN_new w) ((((Below.refl _ _).alloc (Nat.le_refl _) _).alloc (by simp) _).drew.block _ (by simp))
  · rintro b (rfl | rfl | h)
    · omega
    · omega
    · simp [Value.ownBlock] at h; omega

set_option maxHeartbeats 1000000 in
theorem noPlaces_calls (c : Nat) (hc : c ≤ 1000000) (w : World) :
    Calls Try.prog 19 #[.int .i64 (c : Int)] w fun e w' => ∃ p v m, e = .returned (.pointer (some ⟨p, 0, none⟩)) ∧ PlAt p v m [] w' ∧ Below w.heap.size w w' ∧ ∀ b, FtP p v m b → w.heap.size ≤ b := by
  obtain ⟨i0, hi, hz0, hz1, hz2⟩ := infoP
  go_enter Try.func19, Try.ntmps19
  go_wp2_with fail
  refine wp_region_held_drew (S := fun _ => True) (by kernel_rfl) trivial (fun hHeld => ?_)
  refine wpAnyH_take (i := 0) (v := ?v1) rfl (by kernel_rfl) (by kernel_rfl) (by kernel_rfl) (fun _ _ _ h => h) (Or.inl ⟨by rfl, ?hy1⟩) (by assumption) ?_
  case hy1 => (intro w hSw; go_simp <;> (try with_reducible rfl))
  simp only [Act.put, List.setIfInBounds_toArray, List.set_cons_zero, List.set_cons_succ, List.getElem_toArray, List.getElem_cons_succ, List.getElem_cons_zero]
  refine wpAnyH_take (i := 2) (v := ?v2) rfl (by kernel_rfl) (by kernel_rfl) (by kernel_rfl) (fun _ _ _ h => h) (Or.inl ⟨by rfl, ?hy2⟩) (by assumption) ?_
  case hy2 => (intro w hSw; go_simp <;> (try with_reducible rfl))
  simp only [Act.put, List.setIfInBounds_toArray, List.set_cons_zero, List.set_cons_succ, List.getElem_toArray, List.getElem_cons_succ, List.getElem_cons_zero]
  refine wpAnyH_ready (rs := [1, 3]) (by kernel_rfl) (by simp) ?_
  refine AllReadyH.cons rfl (fun K hK => ?_) (AllReadyH.cons rfl (fun K hK => ?_) AllReadyH.nil)
  · refine step_make rfl _ _ _ _ rfl i0 _ 5 56 c underP hi hz0 hz1 hz2 rfl rfl hc (by decide) ?_
    intro cur hcur
    refine hK.out _ _ trivial (fun _ => ?_)
    clear hK K
    simp only [Act.put, List.setIfInBounds_toArray, List.set_cons_zero, List.set_cons_succ, List.getElem_toArray, List.getElem_cons_succ, List.getElem_cons_zero]
    refine wpAnyH_ready (rs := [3]) (by kernel_rfl) (by simp) ?_
    refine AllReadyH.cons rfl (fun K hK => ?_) AllReadyH.nil
    refine step_mmap rfl _ rfl c rfl ?_
    refine hK.out _ _ trivial (fun _ => ?_)
    clear hK K
    simp only [Act.put, List.setIfInBounds_toArray, List.set_cons_zero, List.set_cons_succ, List.getElem_toArray, List.getElem_cons_succ, List.getElem_cons_zero]
    refine wpAnyH_take (i := 4) (v := ?v4) rfl (by kernel_rfl) (by kernel_rfl) (by kernel_rfl) (fun _ _ _ h => h) (Or.inl ⟨by rfl, ?hy4⟩) (by assumption) ?_
    case hy4 => (intro w hSw; go_simp <;> (try with_reducible rfl))
    simp only [Act.put, List.setIfInBounds_toArray, List.set_cons_zero, List.set_cons_succ, List.getElem_toArray, List.getElem_cons_succ, List.getElem_cons_zero]
    refine wpAnyH_ready (rs := [5]) (by kernel_rfl) (by simp) ?_
    refine AllReadyH.cons rfl (fun K hK => ?_) AllReadyH.nil
    go_simp
    refine hK.out _ _ trivial (fun _ => ?_)
    clear hK K
    refine wpAnyH_take (i := 6) (v := ?v6) rfl (by kernel_rfl) (by kernel_rfl) (by kernel_rfl) (fun _ _ _ h => h) (Or.inl ⟨by rfl, ?hy6⟩) (by assumption) ?_
    case hy6 => (intro w hSw; go_simp <;> (try with_reducible rfl))
    simp only [Act.put, List.setIfInBounds_toArray, List.set_cons_zero, List.set_cons_succ, List.getElem_toArray, List.getElem_cons_succ, List.getElem_cons_zero]
    refine wpAnyH_done (by kernel_rfl) ?_ _
    go_wp2
    go_ret
    obtain ⟨v', m', h1, h2, h3⟩ := new_one (w := w) hcur hc rfl rfl rfl
    exact ⟨_, _, _, rfl, h1, h2, h3⟩
  · refine step_mmap rfl _ rfl c rfl ?_
    refine hK.out _ _ trivial (fun _ => ?_)
    clear hK K
    simp only [Act.put, List.setIfInBounds_toArray, List.set_cons_zero, List.set_cons_succ, List.getElem_toArray, List.getElem_cons_succ, List.getElem_cons_zero]
    refine wpAnyH_ready (rs := [1]) (by kernel_rfl) (by simp) ?_
    refine AllReadyH.cons rfl (fun K hK => ?_) AllReadyH.nil
    refine step_make rfl _ _ _ _ rfl i0 _ 5 56 c underP hi hz0 hz1 hz2 rfl rfl hc (by decide) ?_
    intro cur hcur
    refine hK.out _ _ trivial (fun _ => ?_)
    clear hK K
    simp only [Act.put, List.setIfInBounds_toArray, List.set_cons_zero, List.set_cons_succ, List.getElem_toArray, List.getElem_cons_succ, List.getElem_cons_zero]
    refine wpAnyH_take (i := 4) (v := ?v8) rfl (by kernel_rfl) (by kernel_rfl) (by kernel_rfl) (fun _ _ _ h => h) (Or.inl ⟨by rfl, ?hy8⟩) (by assumption) ?_
    case hy8 => (intro w hSw; go_simp <;> (try with_reducible rfl))
    simp only [Act.put, List.setIfInBounds_toArray, List.set_cons_zero, List.set_cons_succ, List.getElem_toArray, List.getElem_cons_succ, List.getElem_cons_zero]
    refine wpAnyH_ready (rs := [5]) (by kernel_rfl) (by simp) ?_
    refine AllReadyH.cons rfl (fun K hK => ?_) AllReadyH.nil
    go_simp
    refine hK.out _ _ trivial (fun _ => ?_)
    clear hK K
    refine wpAnyH_take (i := 6) (v := ?v10) rfl (by kernel_rfl) (by kernel_rfl) (by kernel_rfl) (fun _ _ _ h => h) (Or.inl ⟨by rfl, ?hy10⟩) (by assumption) ?_
    case hy10 => (intro w hSw; go_simp <;> (try with_reducible rfl))
    simp only [Act.put, List.setIfInBounds_toArray, List.set_cons_zero, List.set_cons_succ, List.getElem_toArray, List.getElem_cons_succ, List.getElem_cons_zero]
    refine wpAnyH_done (by kernel_rfl) ?_ _
    go_wp2
    go_ret
    obtain ⟨v', m', h1, h2, h3⟩ := new_other (w := w) hcur hc rfl rfl rfl
    exact ⟨_, _, _, rfl, h1, h2, h3⟩

/-- a dict at d, of at most n places, in the blocks of S: it has l -/
def DcS (S : Nat → Prop) (d n : Nat) (l : List Ent) (w : World) : Prop :=
  ∃ p v m L, Blk d 50 #[.pointer (some ⟨p, 0, none⟩)] w ∧ PlAt p v m L w ∧ live L = l ∧ L.length ≤ n ∧ S d ∧ ∀ b, FtP p v m b → S b
theorem DcS.mono {S T : Nat → Prop} {d n k : Nat} {l : List Ent} {w : World} (h : DcS S d n l w) (hS : ∀ b, b < w.heap.size → S b → T b) (hn : n ≤ k) : DcS T d k l w := by
  obtain ⟨p, v, m, L, h1, h2, h3, h4, h5, h6⟩ := h
  exact ⟨p, v, m, L, h1, h2, h3, Nat.le_trans h4 hn, hS d (blk_lt h1) h5, fun b hb => hS b (h2.lt hb) (h6 b hb)⟩
theorem DcS.keep {S T : Nat → Prop} {d n : Nat} {l : List Ent} {a c : World} (h : DcS S d n l a) (k : Keep T a c) (hT : ∀ b, b < a.heap.size → S b → ¬ T b) : DcS S d n l c := by
  obtain ⟨p, v, m, L, h1, h2, h3, h4, h5, h6⟩ := h
  exact ⟨p, v, m, L, blk_keep h1 k (hT d (blk_lt h1) h5), h2.keep (fun b hb => k.block b (h2.lt hb) (hT b (h2.lt hb) (h6 b hb))), h3, h4, h5, h6⟩
theorem DcS.on {S : Nat → Prop} {d n : Nat} {l : List Ent} {a c : World} (h : DcS S d n l a) (k : Below a.heap.size a c) : DcS S d n l c :=
  h.keep (T := fun _ => False) (Keep.of k) (fun _ _ _ h => h)
theorem DcS.lt {S : Nat → Prop} {d n : Nat} {l : List Ent} {w : World} (h : DcS S d n l w) : d < w.heap.size := by
  obtain ⟨p, v, m, L, h1, _⟩ := h
  exact blk_lt h1
theorem DcS.once {S : Nat → Prop} {d n : Nat} {l : List Ent} {w : World} (h : DcS S d n l w) : OkL l ∧ l.length ≤ n := by
  obtain ⟨p, v, m, L, h1, h2, rfl, h4, _⟩ := h
  exact ⟨h2.once, Nat.le_trans (live_len L) h4⟩

theorem new_calls (w : World) :
    Calls Try.prog 7 #[] w fun e w' => ∃ d, e = .returned (.pointer (some ⟨d, 0, none⟩)) ∧ DcS (fun b => w.heap.size ≤ b) d 0 [] w' ∧ Below w.heap.size w w' := by
  go_enter Try.func7, Try.ntmps7
  go_wp2_with fail
  refine (noPlaces_calls 0 (by omega) _).mono ?_
  rintro e1 w1 ⟨p, v, m, rfl, h1, h2, h3⟩
  have H1 := hid h1
  have H2 := hid h2
  clear h1 h2
  go_wp2_with fail
  go_ret
  have hs := H2.out.size
  have k := (Below.refl w1.heap.size w1).alloc (Nat.le_refl _) (.cells #[.pointer (some ⟨p, 0, none⟩)] 50)
  exact ⟨_, rfl, ⟨p, v, m, [], blk_new _ _ _, H1.out.on k, rfl, Nat.le_refl _, hs, h3⟩, H2.out.trans (k.mono hs)⟩
theorem made_calls {S : Nat → Prop} {d n : Nat} {l : List Ent} (w : World) (h : DcS S d n l w) :
    Calls Try.prog 24 #[.pointer (some ⟨d, 0, none⟩)] w fun e w' => e = .returned (.bool true) ∧ w' = w := by
  obtain ⟨p, v, m, L, h1, _⟩ := h
  have c0 : w.cell? ⟨d, 0, none⟩ = some (.pointer (some ⟨p, 0, none⟩)) := by rw [blk_cell h1]; rfl
  clear h1
  go_enter Try.func24, Try.ntmps24
  go_wp2_with fail
  go_ret
  exact ⟨rfl, rfl⟩
theorem made_nil (w : World) :
    Calls Try.prog 24 #[.pointer none] w fun e w' => e = .returned (.bool false) ∧ w' = w := by
  go_enter Try.func24, Try.ntmps24
  go_wp2_with fail
  go_ret
  exact ⟨rfl, rfl⟩
theorem made_zero {d : Nat} (w : World) (h : w.cell? ⟨d, 0, none⟩ = some (.pointer none)) :
    Calls Try.prog 24 #[.pointer (some ⟨d, 0, none⟩)] w fun e w' => e = .returned (.bool false) ∧ w' = w := by
  go_enter Try.func24, Try.ntmps24
  go_wp2_with fail
  go_ret
  exact ⟨rfl, rfl⟩

end Go.Proofs.Ytphniknckmfilaa
