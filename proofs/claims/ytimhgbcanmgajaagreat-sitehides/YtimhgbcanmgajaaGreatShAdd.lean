/- Root and Add within. -/
import Derived.Test.YtimhgbcanmgajaaGreatJoint9
import Derived.Test.YtimhgbcanmgajaaGreatJoint5
namespace Go.Proofs.YtimhgbcanmgajaaGreat
set_option linter.unusedSimpArgs false
open Go.RowKit

/-- all shapes, and one more -/
theorem TrAt.more {M : Nat} {L : List Sh} {t m sg : Nat} {v v' : Value} {g : Nat → Nat} {nm nm' : Nat → Option Nat} {s : Sh} {w w' : World} (h : TrAt M L t m v g nm w) (hwf : WfS M (L ++ [s]))
    (hb : Blk t 254 #[.int .i64 (M : Int), .map (some m), v'] w') (hr : w'.ownsRow 0 264 1 v' (L.length + 1) (rowL g L.length ++ [.pointer (some ⟨sg, 0, none⟩)]))
    (hm : ∃ c, c ≤ L.length + 1 ∧ MapI m (rootF (L ++ [s])) c w') (hn : OneAt (L ++ [s]) s sg none w') (ho : ∀ (i : Nat) (u : Sh), L[i]? = some u → OneAt (L ++ [s]) u (g i) (nm' i) w')
    (hg : ∀ i, i < L.length → g i ≠ sg) (hi : ∀ i j k, i < L.length → j < L.length → nm' i = some k → nm' j = some k → i = j) (hmr : ∀ i, i < L.length → nm' i ≠ some m) :
    TrAt M (L ++ [s]) t m v' (upd g L.length sg) (upd nm' L.length none) w' := by
  have hl : (L ++ [s]).length = L.length + 1 := by simp
  refine ⟨hwf, hb, ?_, by rw [hl]; exact hm, ?_, ?_, ?_, ?_⟩
  · rw [hl, rowL_succ]; exact hr
  · intro i u hu
    rcases get_snoc hu with h1 | ⟨rfl, rfl⟩
    · have := lt_of_get h1
      rw [upd_ne _ _ (by omega), upd_ne _ _ (by omega)]
      exact ho i u h1
    · rw [upd_at, upd_at]; exact hn
  · intro i j h1 h2 e
    rw [hl] at h1 h2
    by_cases hi' : i = L.length <;> by_cases hj' : j = L.length
    · omega
    · rw [hi', upd_at, upd_ne _ _ hj'] at e
      exact absurd e.symm (hg j (by omega))
    · rw [hj', upd_at, upd_ne _ _ hi'] at e
      exact absurd e (hg i (by omega))
    · rw [upd_ne _ _ hi', upd_ne _ _ hj'] at e
      exact h.gi i j (by omega) (by omega) e
  · intro i j k h1 h2 e1 e2
    rw [hl] at h1 h2
    by_cases hi' : i = L.length
    · rw [hi', upd_at] at e1; cases e1
    · by_cases hj' : j = L.length
      · rw [hj', upd_at] at e2; cases e2
      · rw [upd_ne _ _ hi'] at e1
        rw [upd_ne _ _ hj'] at e2
        exact hi i j k (by omega) (by omega) e1 e2
  · intro i h1 e
    rw [hl] at h1
    by_cases hi' : i = L.length
    · rw [hi', upd_at] at e; cases e
    · rw [upd_ne _ _ hi'] at e
      exact hmr i (by omega) e
theorem ftS_more {n t m sg b : Nat} {v' : Value} {g : Nat → Nat} {nm' : Nat → Option Nat} (h : FtS (n + 1) t m v' (upd g n sg) (upd nm' n none) b) : b = t ∨ b = m ∨ v'.ownBlock = some b ∨ b = sg ∨ ∃ i, i < n ∧ (b = g i ∨ nm' i = some b) := by
  rcases h with h | h | h | ⟨i, hi, h⟩
  · exact .inl h
  · exact .inr (.inl h)
  · exact .inr (.inr (.inl h))
  · by_cases e : i = n
    · rw [e, upd_at, upd_at] at h
      rcases h with h | h
      · exact .inr (.inr (.inr (.inl h)))
      · cases h
    · rw [upd_ne _ _ e, upd_ne _ _ e] at h
      exact .inr (.inr (.inr (.inr ⟨i, by omega, h⟩)))
theorem nextF_root (L : List Sh) (p : Int) (u : Sh) (x : Int) (hn : atS L (p, []) = none) : nextF (L ++ [(p, [])]) u x = nextF L u x := by
  unfold nextF
  rw [toF_snoc hn, if_neg (fun e => by simp at e)]
theorem lit0 : I64 0 := ⟨by omega, by omega⟩
theorem rootF_put {L : List Sh} {p : Int} (hn : atS L (p, []) = none) (y : Int) : putFI (rootF L) p ((L.length : Int) + 1) y = rootF (L ++ [(p, [])]) y := by
  unfold putFI rootF
  rw [toF_snoc hn]
  by_cases h : y = p
  · subst h; simp
  · rw [if_neg h, if_neg (fun e => h (by simpa using e))]
theorem rootF_add {L : List Sh} {p : Int} {ns : List Int} {x : Int} (hn : atS L (p, ns ++ [x]) = none) (y : Int) : rootF L y = rootF (L ++ [(p, ns ++ [x])]) y := by
  unfold rootF
  rw [toF_snoc hn, if_neg (fun e => by simp at e)]
/-- behind a root that was made -/
theorem TrS.rooted {S : Nat → Prop} {M : Nat} {L : List Sh} {t m c : Nat} {v v' : Value} {g : Nat → Nat} {nm : Nat → Option Nat} {p : Int} {w w1 w2 w3 : World} (h : TrAt M L t m v g nm w) (hS : ∀ b, FtS L.length t m v g nm b → S b) (hp : 0 ≤ p ∧ I64 p) (hn : atS L (p, []) = none) (hl : L.length < M)
    (e1 : w1 = w.alloc (.cells #[.int .i64 p, .int .i64 0, .int .i64 0, .map none] 266)) (hc : c ≤ L.length)
    (hb : Blk t 254 #[.int .i64 (M : Int), .map (some m), v'] w2) (hr : w2.ownsRow 0 264 1 v' (L.length + 1) (rowL g L.length ++ [.pointer (some ⟨w.heap.size, 0, none⟩)])) (k2 : Keep (fun b => b = t ∨ v.ownBlock = some b) w1 w2) (hv : ∀ g, v'.ownBlock = some g → v.ownBlock = some g ∨ w1.heap.size ≤ g)
    (hM : MapI m (putFI (rootF L) p ((L.length : Int) + 1)) (c + 1) w3) (k3 : Keep (fun b => b = m) w2 w3) : TrS (Up S w) t M (L ++ [(p, [])]) w3 ∧ Keep S w w3 := by
  subst e1
  obtain ⟨a1, a2, a3⟩ := h.apart
  have A : Below w.heap.size w (w.alloc (.cells #[.int .i64 p, .int .i64 0, .int .i64 0, .map none] 266)) := (Below.refl _ w).alloc (Nat.le_refl _) _
  have hml := h.lt (b := m) (.inr (.inl rfl))
  have old : ∀ b, b < w.heap.size → b ≠ t → b ≠ m → v.ownBlock ≠ some b → w3.heap[b]? = w.heap[b]? := fun b hb h1 h2 h3 =>
    ((k3.block b (Nat.lt_of_lt_of_le hb (Nat.le_trans A.size k2.size)) h2).trans (k2.block b (Nat.lt_of_lt_of_le hb A.size) (fun e => by rcases e with e | e; exact h1 e; exact h3 e))).trans (A.block b hb)
  have hnew : Blk w.heap.size 266 #[.int .i64 p, .int .i64 0, .int .i64 0, .map none] w3 := by
    have h1 := blk_new w 266 #[.int .i64 p, .int .i64 0, .int .i64 0, .map none]
    have h2 := blk_keep h1 k2 (fun e => by
      rcases e with e | e
      · have := h.lt (b := t) (.inl rfl); omega
      · have := h.lt (b := w.heap.size) (.inr (.inr (.inl e))); omega)
    exact blk_keep h2 k3 (fun e => by omega)
  have htr := h.wf.snoc (s := (p, [])) hl hn (fun _ _ _ e => by simp at e) (by simp) (by simp) hp (by simp)
  have T := h.more (s := (p, [])) (sg := w.heap.size) (v' := v') (nm' := nm) (w' := w3) htr (blk_keep hb k3 (fun e => a1 e)) (row_keep hr (fun gb hg => ?_)) ⟨c + 1, by omega, mapI_ext hM (rootF_put hn)⟩ ?_ ?_ (fun i hi e => by have := h.lt (b := g i) (.inr (.inr (.inr ⟨i, hi, .inl rfl⟩))); omega) h.mi h.mr
  · refine ⟨⟨m, v', _, _, T, fun b hb' => ?_⟩, ?_⟩
    · rw [show (L ++ [((p, []) : Sh)]).length = L.length + 1 by simp] at hb'
      rcases ftS_more hb' with rfl | rfl | h1 | rfl | ⟨i, hi, h1⟩
      · exact .inl (hS _ (.inl rfl))
      · exact .inl (hS _ (.inr (.inl rfl)))
      · rcases hv b h1 with h2 | h2
        · exact .inl (hS _ (.inr (.inr (.inl h2))))
        · exact .inr (by simp at h2; omega)
      · exact .inr (Nat.le_refl _)
      · exact .inl (hS _ (.inr (.inr (.inr ⟨i, hi, h1⟩))))
    · refine ((Keep.of (S := S) A).trans k2 (fun b _ e => ?_)).trans k3 (fun b _ e => by subst e; exact hS _ (.inr (.inl rfl)))
      rcases e with rfl | e
      · exact hS _ (.inl rfl)
      · exact hS _ (.inr (.inr (.inl e)))
  · obtain ⟨cur, hcur⟩ := row_lt hr hg
    refine k3.block gb (blk_lt hcur) (fun e => ?_)
    rcases hv gb hg with h2 | h2
    · exact (a2 gb h2).2 e
    · simp at h2; omega
  · refine ⟨by rw [parS_root]; exact hnew, fun x => ?_⟩
    rw [nextF_root L p _ x hn]
    unfold nextF toF
    rw [atS_none]
    · rfl
    · intro i hi
      obtain ⟨j, _, hj⟩ := h.wf.up i p [] x (by simpa using hi)
      exact atS_no hn j hj
  · intro i u hu
    have hil := lt_of_get hu
    obtain ⟨q1, q2, q3, q4, q5, q6⟩ := a3 i hil
    have o := h.one i u hu
    have hgl := h.lt (b := g i) (.inr (.inr (.inr ⟨i, hil, .inl rfl⟩)))
    have o' := o.keep (c := w3) (old _ hgl q1 q2 q3) (fun k hk => old k (h.lt (.inr (.inr (.inr ⟨i, hil, .inr hk⟩)))) (fun e => q4 (e ▸ hk)) (fun e => h.mr i hil (e ▸ hk)) (fun e => q5 k e hk))
    refine ⟨by rw [parS_snoc h.wf hu]; exact o'.blk, ?_⟩
    have := o'.next
    cases hk : nm i with
    | none =>
      rw [hk] at this
      intro x
      rw [nextF_root L p _ x hn]
      exact this x
    | some k =>
      rw [hk] at this
      obtain ⟨c', h1, h2⟩ := this
      exact ⟨c', by simp; omega, mapI_ext h2 (fun x => (nextF_root L p _ x hn).symm)⟩

set_option maxHeartbeats 1000000 in
theorem root_calls {S : Nat → Prop} {t M : Nat} {L : List Sh} (w : World) (h : TrS S t M L w) (p : Int) (hp : 0 ≤ p ∧ I64 p) :
    Calls Tryz.prog 138 #[.pointer (some ⟨t, 0, none⟩), .int .i64 p] w fun e w' => e = .returned (.int .i64 (ofN M L (p, []) : Int)) ∧ TrS (Up S w) t M (ofL M L (p, [])) w' ∧ Keep S w w' := by
  have HS := hid h
  obtain ⟨m, v, g, nm, hT, hf⟩ := h
  obtain ⟨c, hc, hm⟩ := hT.root
  obtain ⟨q0, q1, q2⟩ := hT.cells
  have HM := hid hm
  have HT := hid hT
  have HF := hid hf
  have hI := hp.2
  clear hm hT hf
  cases hi : atS L (p, []) with
  | some i =>
    have hF : rootF L p = some ((i + 1 : Nat) : Int) := by unfold rootF toF; rw [hi]; rfl
    rw [show ofN M L (p, []) = i + 1 from by unfold ofN; rw [hi], show ofL M L (p, []) = L from by unfold ofL; rw [hi]; rfl]
    clear hi
    go_enter Tryz.func138, Tryz.ntmps138
    go_wp2_with (first | (at_lookup; refine gi_look underMi rfl _ _ rfl m _ _ p rfl HM.out rfl hI ?_; rw [hF]) | fail)
    go_ret
    exact ⟨rfl, HS.out.mono (fun b _ hb => .inl hb), Keep.refl _ _⟩
  | none =>
    have hF : rootF L p = none := by unfold rootF toF; rw [hi]; rfl
    have HI := hid hi
    have A : Below w.heap.size w (w.alloc (.cells #[.int .i64 p, .int .i64 0, .int .i64 0, .map none] 266)) := (Below.refl _ w).alloc (Nat.le_refl _) _
    have HA := hid A
    have HTA := hid (HT.out.on A)
    by_cases hl : M ≤ L.length
    · rw [show ofN M L (p, []) = 0 from by unfold ofN; rw [hi]; simp [hl], show ofL M L (p, []) = L from by unfold ofL; rw [hi]; simp [hl]]
      have HP := hid (put_full (sg := w.heap.size) _ HTA.out.blk HTA.out.row hl)
      clear hi A
      go_enter Tryz.func138, Tryz.ntmps138
      go_wp2_with (first | (at_lookup; refine gi_look underMi rfl _ _ rfl m _ _ p rfl HM.out rfl hI ?_; rw [hF]) | fail)
      refine HP.out.mono ?_
      rintro e1 w1 ⟨rfl, b1⟩
      have B1 := hid (below_on HA.out b1)
      clear b1
      go_wp2_with fail
      go_ret
      exact ⟨rfl, (HS.out.on B1.out).mono (fun b _ hb => .inl hb), Keep.of B1.out⟩
    · rw [show ofN M L (p, []) = L.length + 1 from by unfold ofN; rw [hi]; simp [hl], show ofL M L (p, []) = L ++ [(p, [])] from by unfold ofL; rw [hi]; simp [hl]]
      have hM := HT.out.wf.most
      have HP := hid (put_new (sg := w.heap.size) _ HTA.out.blk HTA.out.row (by omega) hM)
      have hmA := hid (mapI_keep (b := w.alloc (.cells #[.int .i64 p, .int .i64 0, .int .i64 0, .map none] 266)) HM.out (A.block m (HT.out.lt (.inr (.inl rfl)))))
      obtain ⟨a1, a2, a3⟩ := HT.out.apart
      have HA2 := hid a2
      have HA1 := hid a1
      clear hi A a1 a2 a3
      go_enter Tryz.func138, Tryz.ntmps138
      go_wp2_with (first | (at_lookup; refine gi_look underMi rfl _ _ rfl m _ _ p rfl HM.out rfl hI ?_; rw [hF]) | fail)
      refine HP.out.mono ?_
      rintro e1 w1 ⟨rfl, v', b1, r1, k1, n1⟩
      have HB1 := hid b1
      have HR1 := hid r1
      have HK1 := hid k1
      have HN1 := hid n1
      have c1 : w1.cell? ⟨t, 1, none⟩ = some (.map (some m)) := by rw [blk_cell b1]; rfl
      have HM1 := hid (mapI_keep hmA.out (k1.block m (Nat.lt_of_lt_of_le (HT.out.lt (b := m) (.inr (.inl rfl))) HA.out.size) (fun e => by
        rcases e with e | e
        · exact HA1.out e.symm
        · exact (HA2.out m e).2 rfl)))
      have htl := blk_lt b1
      clear b1 r1 k1 n1
      go_wp2_with (first | (at_mapUpdate; refine gi_put underMi rfl _ _ _ rfl m _ _ p ((L.length : Int) + 1) rfl HM1.out (by unfold maxLen; omega) rfl hI rfl (WalkArith.wf_i64 (by omega)) ?_; intro w2 hM2 g2; have HM2 := hid hM2; have HG2 := hid g2; clear hM2 g2) | fail)
      go_ret
      have hM2 := HM2.out
      rw [hF] at hM2
      have R := TrS.rooted HT.out HF.out hp HI.out (by omega) rfl hc HB1.out HR1.out HK1.out HN1.out hM2 (Keep.grown HG2.out (fun k hk => (Option.some.inj hk).symm))
      exact ⟨by simp, R.1, R.2⟩

theorem nextF_put {L : List Sh} {s : Sh} {x : Int} (hn : atS L (s.1, s.2 ++ [x]) = none) (y : Int) : putFI (nextF L s) x ((L.length : Int) + 1) y = nextF (L ++ [(s.1, s.2 ++ [x])]) s y := by
  unfold putFI nextF
  rw [toF_snoc hn]
  by_cases e : y = x
  · subst e; simp
  · rw [if_neg e, if_neg (fun e' => by
      injection e' with _ e2
      have := List.append_inj' e2 rfl
      simp at this
      exact e this)]
theorem nextF_other {M : Nat} {L : List Sh} {i j : Nat} {s u : Sh} {x : Int} (h : WfS M L) (hi : L[i]? = some s) (hj : L[j]? = some u) (hne : j ≠ i) (hn : atS L (s.1, s.2 ++ [x]) = none) (y : Int) : nextF (L ++ [(s.1, s.2 ++ [x])]) u y = nextF L u y := by
  unfold nextF
  rw [toF_snoc hn, if_neg (fun e' => by
      injection e' with e1 e2
      have e3 := List.append_inj' e2 rfl
      exact hne (h.once j i s (by rw [hj]; congr 1; exact Prod.ext e1 e3.1) hi))]
/-- behind a shape that was made of its parent -/
theorem TrS.added {S : Nat → Prop} {M : Nat} {L : List Sh} {t m c i k : Nat} {v v' : Value} {g : Nat → Nat} {nm : Nat → Option Nat} {s : Sh} {x : Int} {w w0 w1 w2 w3 : World} (h : TrAt M L t m v g nm w0) (hS : ∀ b, FtS L.length t m v g nm b → S b) (hi : L[i]? = some s) (hx : I64 x) (hfew : s.2.length < 12) (hxn : x ∉ s.2) (hn : atS L (s.1, s.2 ++ [x]) = none) (hl : L.length < M) (b0 : Below w.heap.size w w0)
    (e1 : w1 = w0.alloc (.cells #[.int .i64 s.1, .int .i64 ((i : Int) + 1), .int .i64 x, .map none] 266)) (hc : c ≤ L.length)
    (hb : Blk t 254 #[.int .i64 (M : Int), .map (some m), v'] w2) (hr : w2.ownsRow 0 264 1 v' (L.length + 1) (rowL g L.length ++ [.pointer (some ⟨w0.heap.size, 0, none⟩)])) (k2 : Keep (fun b => b = t ∨ v.ownBlock = some b) w1 w2) (hv : ∀ g, v'.ownBlock = some g → v.ownBlock = some g ∨ w1.heap.size ≤ g)
    (hg3 : Blk (g i) 266 #[.int .i64 s.1, .int .i64 (parS L s : Int), .int .i64 (lastS s), .map (some k)] w3) (hM : MapI k (putFI (nextF L s) x ((L.length : Int) + 1)) (c + 1) w3) (k3 : Keep (fun b => b = g i ∨ nm i = some b) w2 w3) (hk : nm i = some k ∨ (nm i = none ∧ w2.heap.size ≤ k)) : TrS (Up S w) t M (L ++ [(s.1, s.2 ++ [x])]) w3 ∧ Keep S w w3 := by
  subst e1
  obtain ⟨a1, a2, a3⟩ := h.apart
  have A : Below w0.heap.size w0 (w0.alloc (.cells #[.int .i64 s.1, .int .i64 ((i : Int) + 1), .int .i64 x, .map none] 266)) := (Below.refl _ w0).alloc (Nat.le_refl _) _
  have hil := lt_of_get hi
  have hz0 := b0.size
  have hz2 := k2.size
  simp at hz2
  obtain ⟨p1, p2, p3, p4, p5, p6⟩ := a3 i hil
  have old : ∀ b, b < w0.heap.size → b ≠ t → v.ownBlock ≠ some b → b ≠ g i → nm i ≠ some b → w3.heap[b]? = w0.heap[b]? := fun b hb h1 h2 h3 h4 =>
    ((k3.block b (Nat.lt_of_lt_of_le hb (Nat.le_trans A.size k2.size)) (fun e => by rcases e with e | e; exact h3 e; exact h4 e)).trans (k2.block b (Nat.lt_of_lt_of_le hb A.size) (fun e => by rcases e with e | e; exact h1 e; exact h2 e))).trans (A.block b hb)
  have lt0 : ∀ b, FtS L.length t m v g nm b → b < w0.heap.size := fun b hb => h.lt hb
  have hgil := lt0 _ (.inr (.inr (.inr ⟨i, hil, .inl rfl⟩)))
  have hnew : Blk w0.heap.size 266 #[.int .i64 s.1, .int .i64 ((i : Int) + 1), .int .i64 x, .map none] w3 := by
    have h1 := blk_new w0 266 #[.int .i64 s.1, .int .i64 ((i : Int) + 1), .int .i64 x, .map none]
    have h2 := blk_keep h1 k2 (fun e => by
      rcases e with e | e
      · have := lt0 t (.inl rfl); omega
      · have := lt0 w0.heap.size (.inr (.inr (.inl e))); omega)
    exact blk_keep h2 k3 (fun e => by
      rcases e with e | e
      · omega
      · have := lt0 w0.heap.size (.inr (.inr (.inr ⟨i, hil, .inr e⟩))); omega)
  have htr : WfS M (L ++ [(s.1, s.2 ++ [x])]) := h.wf.snoc hl hn (fun p ns y e => by
      injection e with e1 e2
      have e3 := List.append_inj' e2 rfl
      exact ⟨i, by rw [hi, ← e1, ← e3.1]⟩) (by simp; omega) (by
        simp only [List.nodup_append]
        refine ⟨h.wf.names i s hi, by simp, fun a ha b hb e => ?_⟩
        simp at hb
        subst hb e
        exact hxn ha) (h.wf.pos i s hi) (fun y hy => by
        simp at hy
        rcases hy with hy | rfl
        · exact h.wf.fits i s hi y hy
        · exact hx)
  have hkm : k ≠ m := fun e => by
    rcases hk with hk | ⟨_, hk⟩
    · exact h.mr i hil (e ▸ hk)
    · have := lt0 m (.inr (.inl rfl)); omega
  have hkj : ∀ j, j < L.length → j ≠ i → nm j ≠ some k := fun j hj hne e => by
    rcases hk with hk | ⟨_, hk⟩
    · exact hne (h.mi j i k hj hil e hk)
    · have := lt0 k (.inr (.inr (.inr ⟨j, hj, .inr e⟩))); omega
  have T := h.more (s := (s.1, s.2 ++ [x])) (sg := w0.heap.size) (v' := v') (nm' := upd nm i (some k)) (w' := w3) htr ?_ ?_ ?_ ?_ ?_ (fun j hj e => by have := lt0 (g j) (.inr (.inr (.inr ⟨j, hj, .inl rfl⟩))); omega) ?_ ?_
  · refine ⟨⟨m, v', _, _, T, fun b hb' => ?_⟩, ?_⟩
    · rw [show (L ++ [((s.1, s.2 ++ [x]) : Sh)]).length = L.length + 1 by simp] at hb'
      rcases ftS_more hb' with rfl | rfl | h1 | rfl | ⟨j, hj, h1⟩
      · exact .inl (hS _ (.inl rfl))
      · exact .inl (hS _ (.inr (.inl rfl)))
      · rcases hv b h1 with h2 | h2
        · exact .inl (hS _ (.inr (.inr (.inl h2))))
        · exact .inr (by simp at h2; omega)
      · exact .inr hz0
      · rcases h1 with h1 | h1
        · exact .inl (hS _ (.inr (.inr (.inr ⟨j, hj, .inl h1⟩))))
        · by_cases e : j = i
          · rw [e, upd_at] at h1
            have e' := Option.some.inj h1
            subst e'
            rcases hk with hk | ⟨_, hk⟩
            · exact .inl (hS _ (.inr (.inr (.inr ⟨i, hil, .inr hk⟩))))
            · exact .inr (by omega)
          · rw [upd_ne _ _ e] at h1
            exact .inl (hS _ (.inr (.inr (.inr ⟨j, hj, .inr h1⟩))))
    · refine ((Keep.of (S := S) (below_on b0 A)).trans k2 (fun b _ e => ?_)).trans k3 (fun b _ e => ?_)
      · rcases e with rfl | e
        · exact hS _ (.inl rfl)
        · exact hS _ (.inr (.inr (.inl e)))
      · rcases e with rfl | e
        · exact hS _ (.inr (.inr (.inr ⟨i, hil, .inl rfl⟩)))
        · exact hS _ (.inr (.inr (.inr ⟨i, hil, .inr e⟩)))
  · exact blk_keep hb k3 (fun e => by
      rcases e with e | e
      · exact p1 e.symm
      · exact p4 e)
  · refine row_keep hr (fun gb hg => ?_)
    obtain ⟨cur, hcur⟩ := row_lt hr hg
    refine k3.block gb (blk_lt hcur) (fun e => ?_)
    rcases hv gb hg with h2 | h2
    · rcases e with e | e
      · exact p3 (e ▸ h2)
      · exact p5 gb h2 e
    · simp at h2
      rcases e with e | e
      · omega
      · have := lt0 gb (.inr (.inr (.inr ⟨i, hil, .inr e⟩))); omega
  · obtain ⟨c', h1, h2⟩ := h.root
    have hml := lt0 m (.inr (.inl rfl))
    exact ⟨c', by omega, mapI_ext (mapI_keep h2 (old m hml (fun e => a1 e.symm) (fun e => (a2 m e).2 rfl) (fun e => p2 e.symm) (h.mr i hil))) (fun y => rootF_add hn y)⟩
  · refine ⟨?_, fun y => ?_⟩
    · have hp : parS (L ++ [(s.1, s.2 ++ [x])]) (s.1, s.2 ++ [x]) = i + 1 := by
        unfold parS
        rw [if_neg (by simp)]
        simp only [List.dropLast_concat]
        unfold numS
        rw [atS_snoc, h.wf.at' hi]
        rfl
      rw [hp, lastS_snoc]
      exact hnew
    · unfold nextF toF
      rw [atS_none]
      · rfl
      · intro j hj
        rcases get_snoc hj with hj | ⟨_, e⟩
        · obtain ⟨j', _, hj'⟩ := h.wf.up j s.1 (s.2 ++ [x]) y hj
          exact atS_no hn j' hj'
        · injection e with _ e2
          have := congrArg List.length e2
          simp at this
  · intro j u hu
    have hjl := lt_of_get hu
    obtain ⟨q1, q2, q3, q4, q5, q6⟩ := a3 j hjl
    have o := h.one j u hu
    have hgl := lt0 (g j) (.inr (.inr (.inr ⟨j, hjl, .inl rfl⟩)))
    by_cases e : j = i
    · subst e
      rw [hi] at hu
      cases hu
      rw [upd_at]
      refine ⟨by rw [parS_snoc h.wf hi]; exact hg3, c + 1, by simp; omega, mapI_ext hM (nextF_put hn)⟩
    · rw [upd_ne _ _ e]
      have o' := o.keep (c := w3) (old _ hgl q1 q3 (fun e' => e (h.gi j i hjl hil e')) (q6 i hil)) (fun k' hk' => old k' (lt0 k' (.inr (.inr (.inr ⟨j, hjl, .inr hk'⟩)))) (fun e' => q4 (e' ▸ hk')) (fun e' => q5 k' e' hk') (fun e' => p6 j hjl (e' ▸ hk')) (fun e' => e (h.mi j i k' hjl hil hk' e')))
      refine ⟨by rw [parS_snoc h.wf hu]; exact o'.blk, ?_⟩
      have := o'.next
      cases hk' : nm j with
      | none =>
        rw [hk'] at this
        intro y
        rw [nextF_other h.wf hi hu e hn y]
        exact this y
      | some k' =>
        rw [hk'] at this
        obtain ⟨c', h1, h2⟩ := this
        exact ⟨c', by simp; omega, mapI_ext h2 (fun y => (nextF_other h.wf hi hu e hn y).symm)⟩
  · intro j j' k' hj hj' e1 e2
    by_cases e : j = i <;> by_cases e' : j' = i
    · omega
    · rw [e, upd_at] at e1
      rw [upd_ne _ _ e'] at e2
      cases e1
      exact absurd e2 (hkj j' hj' e')
    · rw [e', upd_at] at e2
      rw [upd_ne _ _ e] at e1
      cases e2
      exact absurd e1 (hkj j hj e)
    · rw [upd_ne _ _ e] at e1
      rw [upd_ne _ _ e'] at e2
      exact h.mi j j' k' hj hj' e1 e2
  · intro j hj e1
    by_cases e : j = i
    · rw [e, upd_at] at e1
      exact hkm (Option.some.inj e1)
    · rw [upd_ne _ _ e] at e1
      exact h.mr j hj e1

set_option maxRecDepth 100000 in
/-- v, ok := m[x], of a map that may be none -/
theorem gi_lookN {ops : Array Oper} {rest : List Oper} {o : Oper} {a : Act} {Q : Exit → Act → World → Prop} {w : World} (hg : o.guard = none) (mo x : Operand) (hop : o.op = Op.lookup 251 mo x true)
    (nm : Option Nat) (f : Int → Option Int) (s : Int) (hm : a.eval mo = .map nm) (hM : ∀ k, nm = some k → ∃ c, MapI k f c w) (hN : nm = none → f s = none) (hx : a.eval x = .int .i64 s) (hs : I64 s)
    (hK : wpList Tryz.prog ops Q rest (a.put o.dst (.tuple #[.int .i64 ((f s).getD 0), .bool (f s).isSome])) w) : wpList Tryz.prog ops Q (o :: rest) a w := by
  cases nm with
  | some k =>
    obtain ⟨c, hc⟩ := hM k rfl
    exact gi_look underMi hg mo x hop k c f s hm hc hx hs hK
  | none =>
    have hrun := Maps.look_nil (w := w) true keyI underMi (zeroIn _) (keyOf_litI hs)
    refine wpList_plain hg fun _ hK' => ?_
    unfold Oper.wp
    rw [hN rfl] at hK
    simp [execOp, hop, hm, hx, hrun, Result.andThen]
    exact hK' _ _ hK
theorem addN_at {M : Nat} {L : List Sh} {i : Nat} {s : Sh} (x : Int) (hi : L[i]? = some s) : addN M L ((i + 1 : Nat) : Int) x = if 12 ≤ s.2.length ∨ x ∈ s.2 then 0 else ofN M L (s.1, s.2 ++ [x]) := by
  unfold addN
  rw [getS_succ, hi]
theorem addL_at {M : Nat} {L : List Sh} {i : Nat} {s : Sh} (x : Int) (hi : L[i]? = some s) : addL M L ((i + 1 : Nat) : Int) x = if 12 ≤ s.2.length ∨ x ∈ s.2 then L else ofL M L (s.1, s.2 ++ [x]) := by
  unfold addL
  rw [getS_succ, hi]

set_option maxHeartbeats 2000000 in
theorem shadd_calls {S : Nat → Prop} {t M i : Nat} {L : List Sh} {s : Sh} (w : World) (h : TrS S t M L w) (hi : L[i]? = some s) (x : Int) (hx : I64 x) :
    Calls Tryz.prog 166 #[.pointer (some ⟨t, 0, none⟩), .int .i64 ((i + 1 : Nat) : Int), .int .i64 x] w fun e w' => e = .returned (.int .i64 (addN M L ((i + 1 : Nat) : Int) x : Int)) ∧ TrS (Up S w) t M (addL M L ((i + 1 : Nat) : Int) x) w' ∧ Keep S w w' := by
  rw [addN_at x hi, addL_at x hi]
  have HS := hid h
  obtain ⟨m, v, g, nm, hT, hf⟩ := h
  have o := hT.one i s hi
  obtain ⟨q0, q1, q2, q3⟩ := o.cells
  have hil := lt_of_get hi
  have HT := hid hT
  have HF := hid hf
  have HI := hid hi
  have HO := hid o
  have HMk := hid (show ∀ k, nm i = some k → ∃ c, MapI k (nextF L s) c w from fun k hk => by
    have := o.next
    rw [hk] at this
    obtain ⟨c, _, h2⟩ := this
    exact ⟨c, h2⟩)
  have HNo := hid (show nm i = none → nextF L s x = none from fun hk => by
    have := o.next
    rw [hk] at this
    exact this x)
  obtain ⟨cn, hcn, hcm, hcz⟩ : ∃ c, c ≤ L.length ∧ (∀ k, nm i = some k → MapI k (nextF L s) c w) ∧ (nm i = none → (∀ z, nextF L s z = none) ∧ c = 0) := by
    have := o.next
    cases hk : nm i with
    | none => rw [hk] at this; exact ⟨0, Nat.zero_le _, (fun k e => by cases e), fun _ => ⟨this, rfl⟩⟩
    | some k => rw [hk] at this; obtain ⟨c, h1, h2⟩ := this; exact ⟨c, h1, (fun k' e => by cases e; exact h2), (fun e => by cases e)⟩
  have HCM := hid hcm
  have HCZ := hid hcz
  clear hcm hcz
  have HAt := hid (sat_calls w hT hil)
  have HSz := hid (ssize_calls w hT hi)
  have hgl := blk_lt o.blk
  have hM := hT.wf.most
  have hLM := hT.wf.len
  have hfew := hT.wf.few i s hi
  have hnum : I64 ((i + 1 : Nat) : Int) := by unfold I64; omega
  clear hT hf o hi
  cases ha : atS L (s.1, s.2 ++ [x]) with
  | some j =>
    have hF : nextF L s x = some ((j + 1 : Nat) : Int) := by unfold nextF toF; rw [ha]; rfl
    have hj := atS_at ha
    have h1 := HT.out.wf.few j _ hj
    have h2 := HT.out.wf.names j _ hj
    simp at h1
    have h3 : x ∉ s.2 := fun hm => by
      rw [List.nodup_append] at h2
      exact h2.2.2 x hm x (by simp) rfl
    rw [if_neg (by intro e; rcases e with e | e; omega; exact h3 e), if_neg (by intro e; rcases e with e | e; omega; exact h3 e)]
    rw [show ofN M L (s.1, s.2 ++ [x]) = j + 1 from by unfold ofN; rw [ha], show ofL M L (s.1, s.2 ++ [x]) = L from by unfold ofL; rw [ha]; rfl]
    clear ha hj h1 h2 h3
    generalize ((i + 1 : Nat) : Int) = id at *
    go_enter Tryz.func166, Tryz.ntmps166
    go_wp2_with fail
    refine HAt.out.mono ?_
    rintro e1 w1 ⟨rfl, rfl⟩
    go_wp2_with (first | (at_lookup; refine gi_lookN rfl _ _ rfl (nm i) _ x rfl HMk.out HNo.out rfl hx ?_; rw [hF]) | fail)
    go_ret
    exact ⟨rfl, HS.out.mono (fun b _ hb => .inl hb), Keep.refl _ _⟩
  | none =>
    have hF : nextF L s x = none := by unfold nextF toF; rw [ha]; rfl
    have HA := hid ha
    by_cases h12 : 12 ≤ s.2.length
    · rw [if_pos (.inl h12), if_pos (.inl h12)]
      have d1 : decide ((12 : Int) ≤ (s.2.length : Int)) = true := decide_eq_true (by omega)
      clear ha
      generalize ((i + 1 : Nat) : Int) = id at *
      go_enter Tryz.func166, Tryz.ntmps166
      go_wp2_with fail
      refine HAt.out.mono ?_
      rintro e1 w1 ⟨rfl, rfl⟩
      go_wp2_with (first | (at_lookup; refine gi_lookN rfl _ _ rfl (nm i) _ x rfl HMk.out HNo.out rfl hx ?_; rw [hF]) | fail)
      refine HSz.out.mono ?_
      rintro e2 w2 ⟨rfl, b2⟩
      have B2 := hid b2
      clear b2
      go_wp2_with fail
      go_ret
      exact ⟨rfl, (HS.out.on B2.out).mono (fun b _ hb => .inl hb), Keep.of B2.out⟩
    · have d1 : decide ((12 : Int) ≤ (s.2.length : Int)) = false := decide_eq_false (by omega)
      by_cases hxm : x ∈ s.2
      · rw [if_pos (.inr hxm), if_pos (.inr hxm)]
        have d2 : decide (0 ≤ slotS s.2 x) = true := decide_eq_true (slotS_in hxm)
        have HSl := hid (fun w' (k : Below w.heap.size w w') => slot_calls w' (HT.out.on k) HI.out x)
        generalize slotS s.2 x = sl at *
        clear ha
        generalize ((i + 1 : Nat) : Int) = id at *
        go_enter Tryz.func166, Tryz.ntmps166
        go_wp2_with fail
        refine HAt.out.mono ?_
        rintro e1 w1 ⟨rfl, rfl⟩
        go_wp2_with (first | (at_lookup; refine gi_lookN rfl _ _ rfl (nm i) _ x rfl HMk.out HNo.out rfl hx ?_; rw [hF]) | fail)
        refine HSz.out.mono ?_
        rintro e2 w2 ⟨rfl, b2⟩
        have B2 := hid b2
        clear b2
        go_wp2_with fail
        refine (HSl.out _ B2.out).mono ?_
        rintro e3 w3 ⟨rfl, b3⟩
        have B3 := hid (below_on B2.out b3)
        clear b3
        go_wp2_with fail
        go_ret
        exact ⟨rfl, (HS.out.on B3.out).mono (fun b _ hb => .inl hb), Keep.of B3.out⟩
      · rw [if_neg (by intro e; rcases e with e | e; exact h12 e; exact hxm e), if_neg (by intro e; rcases e with e | e; exact h12 e; exact hxm e)]
        have hsl := slotS_none hxm
        have HSl := hid (fun w' (k : Below w.heap.size w w') => slot_calls w' (HT.out.on k) HI.out x)
        rw [hsl] at HSl
        have HXM := hid hxm
        have H12 := hid h12
        clear hsl hxm
        by_cases hl : M ≤ L.length
        · rw [show ofN M L (s.1, s.2 ++ [x]) = 0 from by unfold ofN; rw [ha]; simp [hl], show ofL M L (s.1, s.2 ++ [x]) = L from by unfold ofL; rw [ha]; simp [hl]]
          have HP := hid (fun w' (k : Below w.heap.size w w') => put_full (sg := w'.heap.size) _ ((HT.out.on k).on ((Below.refl _ w').alloc (Nat.le_refl _) (.cells #[.int .i64 s.1, .int .i64 ((i + 1 : Nat) : Int), .int .i64 x, .map none] 266))).blk ((HT.out.on k).on ((Below.refl _ w').alloc (Nat.le_refl _) (.cells #[.int .i64 s.1, .int .i64 ((i + 1 : Nat) : Int), .int .i64 x, .map none] 266))).row hl)
          clear ha
          generalize ((i + 1 : Nat) : Int) = id at *
          go_enter Tryz.func166, Tryz.ntmps166
          go_wp2_with fail
          refine HAt.out.mono ?_
          rintro e1 w1 ⟨rfl, rfl⟩
          go_wp2_with (first | (at_lookup; refine gi_lookN rfl _ _ rfl (nm i) _ x rfl HMk.out HNo.out rfl hx ?_; rw [hF]) | fail)
          refine HSz.out.mono ?_
          rintro e2 w2 ⟨rfl, b2⟩
          have B2 := hid b2
          clear b2
          go_wp2_with fail
          refine (HSl.out _ B2.out).mono ?_
          rintro e3 w3 ⟨rfl, b3⟩
          have B3 := hid (below_on B2.out b3)
          have o3 := (HT.out.on B3.out).one i s HI.out
          have r0 := o3.cells.1
          have hgl3 := blk_lt o3.blk
          clear b3 o3
          go_wp2_with fail
          refine (HP.out _ B3.out).mono ?_
          rintro e4 w4 ⟨rfl, b4⟩
          have B4 := hid (below_on B3.out (below_on ((Below.refl _ w3).alloc (Nat.le_refl _) _) b4))
          clear b4
          go_wp2_with fail
          go_ret
          exact ⟨rfl, (HS.out.on B4.out).mono (fun b _ hb => .inl hb), Keep.of B4.out⟩
        · rw [show ofN M L (s.1, s.2 ++ [x]) = L.length + 1 from by unfold ofN; rw [ha]; simp [hl], show ofL M L (s.1, s.2 ++ [x]) = L ++ [(s.1, s.2 ++ [x])] from by unfold ofL; rw [ha]; simp [hl]]
          have HP := hid (fun w' (k : Below w.heap.size w w') => put_new (sg := w'.heap.size) _ ((HT.out.on k).on ((Below.refl _ w').alloc (Nat.le_refl _) (.cells #[.int .i64 s.1, .int .i64 ((i + 1 : Nat) : Int), .int .i64 x, .map none] 266))).blk ((HT.out.on k).on ((Below.refl _ w').alloc (Nat.le_refl _) (.cells #[.int .i64 s.1, .int .i64 ((i + 1 : Nat) : Int), .int .i64 x, .map none] 266))).row (by omega) hM)
          clear ha
          generalize hide : ((i + 1 : Nat) : Int) = id at *
          have HIE := hid hide
          clear hide
          go_enter Tryz.func166, Tryz.ntmps166
          go_wp2_with fail
          refine HAt.out.mono ?_
          rintro e1 w1 ⟨rfl, rfl⟩
          go_wp2_with (first | (at_lookup; refine gi_lookN rfl _ _ rfl (nm i) _ x rfl HMk.out HNo.out rfl hx ?_; rw [hF]) | fail)
          refine HSz.out.mono ?_
          rintro e2 w2 ⟨rfl, b2⟩
          have B2 := hid b2
          clear b2
          go_wp2_with fail
          refine (HSl.out _ B2.out).mono ?_
          rintro e3 w3 ⟨rfl, b3⟩
          have B3 := hid (below_on B2.out b3)
          have o3 := (HT.out.on B3.out).one i s HI.out
          have r0 := o3.cells.1
          have hgl3 := blk_lt o3.blk
          clear b3 o3
          go_wp2_with fail
          refine (HP.out _ B3.out).mono ?_
          rintro e4 w4 ⟨rfl, v', b4, r4, k4, n4⟩
          have A3 := below_on B3.out ((Below.refl _ w3).alloc (Nat.le_refl _) (.cells #[.int .i64 s.1, .int .i64 id, .int .i64 x, .map none] 266))
          obtain ⟨a1, a2, a3⟩ := HT.out.apart
          obtain ⟨p1, p2, p3, p4, p5, p6⟩ := a3 i hil
          have keep4 : ∀ b, b < w1.heap.size → b ≠ t → v.ownBlock ≠ some b → w4.heap[b]? = w1.heap[b]? := fun b hb h1 h2 => (k4.block b (Nat.lt_of_lt_of_le hb A3.size) (fun e => by rcases e with e | e; exact h1 e; exact h2 e)).trans (A3.block b hb)
          have bg4 : Blk (g i) 266 #[.int .i64 s.1, .int .i64 (parS L s : Int), .int .i64 (lastS s), .map (nm i)] w4 := (keep4 _ hgl p1 p3).trans HO.out.blk
          have hm4 : ∀ k, nm i = some k → MapI k (nextF L s) cn w4 := fun k hk => mapI_keep (HCM.out k hk) (keep4 k (HT.out.lt (.inr (.inr (.inr ⟨i, hil, .inr hk⟩)))) (fun e => p4 (e ▸ hk)) (fun e => p5 k e hk))
          have HLd := hid (lead_calls (y := (L.length : Int) + 1) w4 bg4 hm4 HCZ.out (by omega) hx (by unfold I64; omega) hF)
          have HB4 := hid b4
          have HR4 := hid r4
          have HK4 := hid k4
          have HN4 := hid n4
          clear b4 r4 k4 n4 A3 a1 a2 a3 p1 p2 p3 p4 p5 p6 keep4 bg4 hm4
          go_wp2_with fail
          refine HLd.out.mono ?_
          rintro e5 w5 ⟨⟨u5, rfl⟩, k, bg5, hm5, k5, hk5⟩
          have R := hid (TrS.added (w := w1) (HT.out.on B3.out) HF.out HI.out hx (by omega) HXM.out HA.out (by omega) B3.out (by rw [show (i : Int) + 1 = id from by have := HIE.out; omega]) hcn HB4.out HR4.out HK4.out HN4.out bg5 hm5 k5 hk5)
          clear bg5 hm5 k5 hk5
          go_wp2_with fail
          go_ret
          exact ⟨by simp, R.out.1, R.out.2⟩

end Go.Proofs.YtimhgbcanmgajaaGreat
