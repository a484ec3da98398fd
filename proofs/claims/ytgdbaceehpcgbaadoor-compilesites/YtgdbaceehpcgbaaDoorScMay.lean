/- Which units may be, as plain functions; what is resolved may be. -/
import Derived.Test.YtgdbaceehpcgbaaDoorJoint6
namespace Go.Proofs.YtgdbaceehpcgbaaDoor
open Go.RowKit

/-- an expression 1, a block 3, else 2 -/
def sortK (k : Int) : Nat := if 1 ≤ k ∧ k ≤ 20 then 1 else if k = 29 then 3 else 2
def nullN : Nd := .mk 1 0 0 ⟨#[]⟩ [] [] 0
/-- the least right node of a sort -/
def standK (k : Int) : Nd := if sortK k = 1 then nullN else if sortK k = 3 then .mk 29 0 0 ⟨#[]⟩ [] [] 0 else .mk 32 0 0 ⟨#[]⟩ [] [nullN] 0
def standL (l : List Nd) : List Nd := l.map fun x => standK x.kind
/-- a node of chapter 6 -/
def unK (k : Int) : Int := if k = 18 ∨ k = 19 ∨ k = 20 then 1 else if k = 33 ∨ k = 34 then 32 else k
def unM (k n : Int) : Int := if k = 18 ∨ k = 19 ∨ k = 20 ∨ k = 33 ∨ k = 34 then 0 else n
/-- a least program around a node -/
def wrapE (t : Nd) : Nd := if sortK t.kind = 1 then .mk 32 0 0 ⟨#[]⟩ [] [t] 0 else t
def wrapS (t : Nd) : Nd := if t.kind = 29 then t else .mk 29 0 0 ⟨#[]⟩ [] [t] 0
def lessN : Nd → Nd | .mk k o n s ns ks p => .mk (unK k) o (unM k n) s ns (standL ks) p
def plainB (t : Nd) : Bool := checkN (wrapS (wrapE (lessN t))) == 0
/-- how many there are: locals, globals, functions -/
abbrev Bds := Int × Int × Int
def withB (n a b : Int) : Bool := decide (a ≤ n) && decide (n ≤ b)
def namedB (b : Bds) (k n : Int) : Bool :=
  if k = 5 ∨ k = 8 ∨ k = 21 ∨ k = 22 then false else if k = 18 ∨ k = 33 then withB n 0 (b.1 - 1) else if k = 19 ∨ k = 34 then withB n 0 (b.2.1 - 1) else if k = 20 then withB n 0 (b.2.2 - 1) else true
mutual
def rightU (b : Bds) : Nd → Bool
  | .mk k o n s ns ks p => namedB b k n && (plainB (.mk k o n s ns ks p) && rightUL b ks)
def rightUL (b : Bds) : List Nd → Bool
  | [] => true
  | x :: r => rightU b x && rightUL b r
end
def bodyU (b : Bds) (l : List Nd) : Bool := rightU b (.mk 29 0 0 ⟨#[]⟩ [] l 0)
def roomB (i : Nat) (p l : Int) : Bool := if i = 0 then (p == 0) && (l == 0) else withB p 0 6 && withB l p 24
def fnsB (G F : Int) : List (Int × Int × List Nd) → Nat → Bool
  | [], _ => true
  | f :: r, i => (roomB i f.1 f.2.1 && bodyU (f.2.1, G, F) f.2.2) && fnsB G F r (i + 1)
def unitB (G : Int) (fs : List (Int × Int × List Nd)) : Bool := (withB G 0 24 && withB (fs.length : Int) 1 32) && fnsB G (fs.length : Int) fs 0
def deepF (l : List Nd) : Bool := l.any fun x => checkN x == 13
def checkU (G : Int) (fs : List (Int × Int × List Nd)) : Int := if fs.any (fun f => deepF f.2.2) then 13 else if unitB G fs then 0 else 2
mutual
def cntF : Nd → Nat
  | .mk k _ _ _ _ ks _ => (if k = 8 then 1 else 0) + cntFL ks
def cntFL : List Nd → Nat
  | [] => 0
  | x :: r => cntF x + cntFL r
end

theorem rightUL_all {b : Bds} : ∀ {l : List Nd}, (∀ x ∈ l, rightU b x = true) → rightUL b l = true
  | [], _ => by rw [rightUL]
  | x :: r, h => by rw [rightUL, h x (by simp), rightUL_all (fun y hy => h y (by simp [hy]))]; rfl

/-! stand-ins are right -/
theorem stand_right {k : Int} {a : Nat} (h : isK k = a) (ha : 1 ≤ a) : rightN (standK k) a = true := by
  unfold isK at h
  unfold standK sortK
  have r1 : rightN nullN 1 = true := by decide
  have r2 : rightN (.mk 32 0 0 ⟨#[]⟩ [] [nullN] 0) 2 = true := by decide
  have r3 : rightN (.mk 29 0 0 ⟨#[]⟩ [] [] 0) 3 = true := by decide
  split at h
  · subst h
    rw [if_pos (by rw [if_pos (by omega)])]
    exact r1
  · split at h
    · rename_i hk
      subst h hk
      exact r3
    · split at h
      · subst h
        rw [if_neg (by rw [if_neg (by omega)]; split <;> omega), if_neg (by rw [if_neg (by omega), if_neg (by omega)]; omega)]
        exact r2
      · omega
theorem right_kind {t : Nd} {a : Nat} (h : rightN t a = true) : isK t.kind = a := by
  cases t
  rw [rightN_mk] at h
  simp only [Bool.and_eq_true, beq_iff_eq] at h
  exact h.1
theorem want_pos (k : Int) (i : Nat) : 1 ≤ wantK k i := by unfold wantK; split; omega; split; omega; omega
theorem standL_right : ∀ {ks : List Nd} {k : Int} {i : Nat}, rightL ks k i = true → rightL (standL ks) k i = true
  | [], _, _, _ => by simp [standL, rightL]
  | x :: r, k, i, h => by
    rw [rightL, Bool.and_eq_true] at h
    have := standL_right h.2
    unfold standL at *
    rw [List.map_cons, rightL, stand_right (right_kind h.1) (want_pos k i), this]
    rfl
theorem stand_high (k : Int) : highN (standK k) ≤ 2 := by
  unfold standK
  split
  · decide
  · split
    · decide
    · decide
theorem standL_high : ∀ l : List Nd, highL (standL l) ≤ 2
  | [] => by simp [standL, highL]
  | x :: r => by
    have h1 := standL_high r
    have h2 := stand_high x.kind
    unfold standL at *
    simp only [List.map_cons, highL]
    omega
/-- a node that is right but for its kids, which are stand-ins -/
theorem plain_of {t : Nd} {a : Nat} (ha : a = 1 ∨ a = 2 ∨ a = 3) (h : rightN (lessN t) a = true) : plainB t = true := by
  have hk := right_kind h
  have hh : highN (lessN t) ≤ 3 := by
    cases t
    have := standL_high
    simp only [lessN, highN]
    rename_i k o n s ns ks p
    have := this ks
    omega
  unfold plainB
  rw [beq_iff_eq]
  generalize lessN t = u at *
  have key : ∀ v : Nd, rightN v 3 = true → highN v ≤ 12 → checkN v = 0 := fun v h1 h2 => by unfold checkN; rw [if_neg (by omega), h1]; rfl
  have blk : ∀ v : Nd, rightN v 2 = true → highN v ≤ 11 → checkN (.mk 29 0 0 ⟨#[]⟩ [] [v] 0) = 0 := fun v h1 h2 => key _ (by
    rw [rightN_mk]
    simp [isK, okB, opOk, numOk, strOk, nsOk, cntOk, rightL, wantK, h1]
    rfl) (by simp only [highN, highL]; omega)
  have ex : ∀ v : Nd, rightN v 1 = true → rightN (.mk 32 0 0 ⟨#[]⟩ [] [v] 0) 2 = true := fun v h1 => by
    rw [rightN_mk]
    simp [isK, okB, opOk, numOk, strOk, nsOk, cntOk, rightL, wantK, h1]
    rfl
  rcases ha with rfl | rfl | rfl
  · have h1 : sortK u.kind = 1 := by
      unfold isK at hk
      unfold sortK
      rw [if_pos]
      split at hk
      · omega
      · split at hk
        · omega
        · split at hk <;> omega
    rw [show wrapE u = .mk 32 0 0 ⟨#[]⟩ [] [u] 0 from by unfold wrapE; rw [if_pos h1], show wrapS (.mk 32 0 0 ⟨#[]⟩ [] [u] 0) = .mk 29 0 0 ⟨#[]⟩ [] [.mk 32 0 0 ⟨#[]⟩ [] [u] 0] 0 from by unfold wrapS; rw [if_neg (by simp [Nd.kind])]]
    exact blk _ (ex u h) (by simp only [highN, highL]; omega)
  · have h1 : ¬ sortK u.kind = 1 ∧ u.kind ≠ 29 := by
      unfold isK at hk
      unfold sortK
      split at hk
      · omega
      · split at hk
        · omega
        · split at hk
          · rw [if_neg (by omega), if_neg (by omega)]; omega
          · omega
    rw [show wrapE u = u from by unfold wrapE; rw [if_neg h1.1], show wrapS u = .mk 29 0 0 ⟨#[]⟩ [] [u] 0 from by unfold wrapS; rw [if_neg h1.2]]
    exact blk u h (by omega)
  · have h1 : u.kind = 29 := by
      unfold isK at hk
      split at hk
      · omega
      · split at hk
        · assumption
        · split at hk <;> omega
    rw [show wrapE u = u from by unfold wrapE; rw [if_neg (by rw [h1]; decide)], show wrapS u = u from by unfold wrapS; rw [if_pos h1]]
    exact key u h (by omega)

/-! names and bounds -/
theorem declR_ok {l l' : List ByteArray} {s : ByteArray} {p : Int} (h : declR l s p = .ok l') (hl : l.length ≤ 24) : l'.length = l.length + 1 ∧ l'.length ≤ 24 := by
  unfold declR at h
  split at h
  · rename_i he
    cases h
    unfold declE at he
    split at he
    · cases he
    · split at he
      · cases he
      · simp; omega
  · cases h
theorem parP_ok {p : Int} : ∀ {ns acc own : List ByteArray}, parP p ns acc = .ok own → acc.length ≤ 24 → own.length = acc.length + ns.length ∧ own.length ≤ 24
  | [], acc, own, h, hl => by cases h; simpa using hl
  | s :: r, acc, own, h, hl => by
    unfold parP at h
    cases hd : declR acc s p with
    | bad q e => rw [hd] at h; cases h
    | ok a =>
      rw [hd, Rz.bind_ok] at h
      have h1 := declR_ok hd hl
      have h2 := parP_ok h h1.2
      simp
      omega
mutual
theorem letN_ok : ∀ (t : Nd) {acc own : List ByteArray}, letN t acc = .ok own → acc.length ≤ 24 → acc.length ≤ own.length ∧ own.length ≤ 24
  | .mk k o n s ns ks p, acc, own, h, hl => by
    rw [letN] at h
    split at h
    · have := declR_ok h hl; omega
    · split at h
      · exact letL_ok ks h hl
      · cases h; exact ⟨Nat.le_refl _, hl⟩
theorem letL_ok : ∀ (l : List Nd) {acc own : List ByteArray}, letL l acc = .ok own → acc.length ≤ 24 → acc.length ≤ own.length ∧ own.length ≤ 24
  | [], acc, own, h, hl => by rw [letL] at h; cases h; exact ⟨Nat.le_refl _, hl⟩
  | x :: r, acc, own, h, hl => by
    rw [letL] at h
    cases hd : letN x acc with
    | bad q e => rw [hd] at h; cases h
    | ok a =>
      rw [hd, Rz.bind_ok] at h
      have h1 := letN_ok x hd hl
      have h2 := letL_ok r h h1.2
      omega
end
/-- functions so far -/
def FsOk (G : Nat) (fs : List Fp) : Prop := ∀ f ∈ fs, f.1 ≤ 6 ∧ f.1 ≤ f.2.1 ∧ f.2.1 ≤ 24 ∧ highL f.2.2 ≤ 11 ∧ ∀ F : Nat, fs.length ≤ F → bodyU ((f.2.1 : Int), (G : Int), (F : Int)) f.2.2 = true
theorem body_nil (b : Bds) : bodyU b [] = true := by
  unfold bodyU
  rw [rightU]
  have h1 : plainB (.mk 29 0 0 ⟨#[]⟩ [] [] 0) = true := plain_of (a := 3) (by omega) (by decide)
  rw [h1, rightUL]
  simp [namedB]

theorem FsOk.more {G : Nat} {fs fs' : List Fp} (h : FsOk G fs) (hl : fs.length ≤ fs'.length) {f : Fp} (hf : f ∈ fs) : f.1 ≤ 6 ∧ f.1 ≤ f.2.1 ∧ f.2.1 ≤ 24 ∧ highL f.2.2 ≤ 11 ∧ ∀ F : Nat, fs'.length ≤ F → bodyU ((f.2.1 : Int), (G : Int), (F : Int)) f.2.2 = true :=
  ⟨(h f hf).1, (h f hf).2.1, (h f hf).2.2.1, (h f hf).2.2.2.1, fun F hF => (h f hf).2.2.2.2 F (Nat.le_trans hl hF)⟩
theorem right_parts {k o n : Int} {s : ByteArray} {ns : List ByteArray} {ks : List Nd} {p : Int} {a : Nat} (h : rightN (.mk k o n s ns ks p) a = true) : isK k = a ∧ okB k o n s ns ks.length = true ∧ rightL ks k 0 = true := by
  rw [rightN_mk] at h
  simpa [Bool.and_eq_true, beq_iff_eq] using h
theorem isK_cases {k : Int} {a : Nat} (h : isK k = a) (ha : 1 ≤ a) : (a = 1 ∧ 1 ≤ k ∧ k ≤ 17) ∨ (a = 3 ∧ k = 29) ∨ (a = 2 ∧ 21 ≤ k ∧ k ≤ 32 ∧ k ≠ 29) := by
  unfold isK at h
  split at h
  · omega
  · split at h
    · omega
    · split at h <;> omega
theorem ok_parts {k o n : Int} {s : ByteArray} {ns : List ByteArray} {c : Nat} (h : okB k o n s ns c = true) : opOk k o = true ∧ numOk k n = true ∧ strOk k s = true ∧ nsOk k ns = true ∧ cntOk k o ns.length c = true := by
  unfold okB at h
  simpa [Bool.and_eq_true] using h
theorem standL_sorts {ks ks' : List Nd} (h : ks'.map (fun x => sortK x.kind) = ks.map (fun x => sortK x.kind)) : standL ks' = standL ks := by
  unfold standL
  induction ks generalizing ks' with
  | nil =>
    have : ks' = [] := by simpa using h
    rw [this]
  | cons x r ih =>
    cases ks' with
    | nil => simp at h
    | cons y q =>
      simp only [List.map_cons, List.cons.injEq] at h
      rw [List.map_cons, List.map_cons, ih h.2]
      congr 1
      unfold standK
      rw [h.1]
theorem named_plain {k : Int} (b : Bds) (n : Int) (h : ¬ (k = 5 ∨ k = 8 ∨ k = 21 ∨ k = 22)) (h2 : k ≤ 17 ∨ (21 ≤ k ∧ k ≤ 32)) : namedB b k n = true := by
  unfold namedB
  rw [if_neg h, if_neg (by omega), if_neg (by omega), if_neg (by omega)]
theorem withB_lt {i n : Nat} (h : i < n) : withB (i : Int) 0 ((n : Int) - 1) = true := by
  unfold withB
  rw [decide_eq_true (by omega), decide_eq_true (by omega)]
  rfl
theorem plain_un1 (p' : Int) : plainB (.mk p' 0 0 ⟨#[]⟩ [] [] 0) = true ∨ ¬ (p' = 18 ∨ p' = 19 ∨ p' = 20) := by
  by_cases h : p' = 18 ∨ p' = 19 ∨ p' = 20
  · left
    refine plain_of (a := 1) (by omega) ?_
    simp only [lessN, standL, List.map_nil, unK, unM, if_pos h]
    rw [if_pos (by omega)]
    decide
  · exact .inr h
/-- a leaf that a name or a function became -/
theorem leaf_right {b : Bds} {k n : Int} (hk : k = 18 ∨ k = 19 ∨ k = 20) (hn : namedB b k n = true) : rightU b (.mk k 0 n ⟨#[]⟩ [] [] 0) = true := by
  have hp : plainB (.mk k 0 n ⟨#[]⟩ [] [] 0) = true := by
    refine plain_of (a := 1) (by omega) ?_
    simp only [lessN, standL, List.map_nil, unK, unM, if_pos hk]
    rw [if_pos (by omega)]
    decide
  rw [rightU, hn, hp, rightUL]
  rfl
/-- a statement that gives a value to a name -/
theorem give_right {b : Bds} {k n : Int} {ks' ks : List Nd} {k0 : Int} (hk : k = 33 ∨ k = 34) (hn : namedB b k n = true) (hr : rightL ks k0 0 = true) (hc : ks.length = 1) (hw : wantK k0 0 = 1) (hs : ks'.map (fun x => sortK x.kind) = ks.map (fun x => sortK x.kind)) (ha : ∀ x ∈ ks', rightU b x = true) : rightU b (.mk k 0 n ⟨#[]⟩ [] ks' 0) = true := by
  have hp : plainB (.mk k 0 n ⟨#[]⟩ [] ks' 0) = true := by
    refine plain_of (a := 2) (by omega) ?_
    simp only [lessN, unK, unM, standL_sorts hs]
    rw [if_neg (by omega), if_pos (by omega), if_pos (by omega)]
    obtain ⟨x, rfl⟩ := List.length_eq_one_iff.1 hc
    rw [rightL, Bool.and_eq_true, hw] at hr
    have h1 := stand_right (right_kind hr.1) (by omega)
    rw [rightN_mk]
    simp [standL, isK, okB, opOk, numOk, strOk, nsOk, cntOk, rightL, wantK, h1]
    rfl
  rw [rightU, hn, hp, rightUL_all ha]
  rfl
mutual
theorem resN_may {gl : List ByteArray} : ∀ (t : Nd) {lo : List ByteArray} {fs : List Fp} {q : Nd × List Fp} {a : Nat}, resN gl t lo fs = .ok q → rightN t a = true → 1 ≤ a → highN t ≤ 12 → FsOk gl.length fs →
    FsOk gl.length q.2 ∧ highN q.1 ≤ highN t ∧ sortK q.1.kind = sortK t.kind ∧ (∀ F : Nat, q.2.length ≤ F → rightU ((lo.length : Int), (gl.length : Int), (F : Int)) q.1 = true) ∧ q.2.length = fs.length + cntF t
  | .mk k o n s ns ks p, lo, fs, q, a, h, hr, ha, hh, hf => by
    obtain ⟨hk, hok, hrl⟩ := right_parts hr
    obtain ⟨o1, o2, o3, o4, o5⟩ := ok_parts hok
    have hkc := isK_cases hk ha
    have hhl : highL ks ≤ 11 := by simp only [highN] at hh; omega
    rw [resN] at h
    split at h
    · rename_i h8
      subst h8
      split at h
      · cases h
      · rename_i h32
        cases h1 : parP p ns [] with
        | bad q' e' => rw [h1] at h; cases h
        | ok own1 =>
          rw [h1, Rz.bind_ok] at h
          cases h2 : letL ks own1 with
          | bad q' e' => rw [h2] at h; cases h
          | ok own =>
            rw [h2, Rz.bind_ok] at h
            cases h3 : resL gl ks own (fs ++ [(ns.length, own.length, [])]) with
            | bad q' e' => rw [h3] at h; cases h
            | ok z =>
              rw [h3] at h
              cases h
              have p1 := parP_ok h1 (by simp)
              have p2 := letL_ok ks h2 p1.2
              have p3 : ns.length ≤ own.length := by
                have a1 := p1.1
                have a2 := p2.1
                simp only [List.length_nil, Nat.zero_add] at a1
                omega
              have hn6 : ns.length ≤ 6 := by
                simp [nsOk] at o4
                exact o4.1
              have hf' : FsOk gl.length (fs ++ [(ns.length, own.length, [])]) := fun f hfm => by
                rcases List.mem_append.1 hfm with hm | hm
                · exact hf.more (by simp) hm
                · simp at hm
                  subst hm
                  exact ⟨hn6, p3, p2.2, by simp [highL], fun F _ => body_nil _⟩
              obtain ⟨i1, i2, i3, i4, i5⟩ := resL_may ks h3 hrl hhl hf'
              simp at i5
              refine ⟨fun f hfm => ?_, ?_, rfl, fun F hF => ?_, ?_⟩
              · rcases List.mem_or_eq_of_mem_set hfm with hm | hm
                · exact i1.more (by simp) hm
                · subst hm
                  refine ⟨hn6, p3, p2.2, Nat.le_trans i2 hhl, fun F hF => ?_⟩
                  · dsimp only
                    rw [List.length_set] at hF
                    have hp : plainB (.mk 29 0 0 ⟨#[]⟩ [] z.1 0) = true := by
                      refine plain_of (a := 3) (by omega) ?_
                      simp only [lessN, standL_sorts i3, unK, unM]
                      rw [if_neg (by omega), if_neg (by omega), if_neg (by omega)]
                      have hc : ks.length ≤ 40 := by simpa [cntOk] using o5
                      have hs := standL_right (i := 0) (k := 29) (ks := ks) (by
                        have e : ∀ (l : List Nd) (i : Nat), rightL l 8 i = true → rightL l 29 i = true := fun l => by
                          induction l with
                          | nil => intro i _; rw [rightL]
                          | cons x r ih =>
                            intro i hh
                            rw [rightL, Bool.and_eq_true] at hh ⊢
                            exact ⟨by simpa [wantK] using hh.1, ih (i + 1) hh.2⟩
                        exact e ks 0 hrl)
                      rw [rightN_mk]
                      unfold standL at hs
                      simp [isK, okB, opOk, numOk, strOk, nsOk, cntOk, standL, hc]
                      exact ⟨rfl, hs⟩
                    unfold bodyU
                    rw [rightU, hp, rightUL_all (i4 F hF)]
                    simp [namedB]
              · simp only [highN, highL]; omega
              · refine leaf_right (by omega) ?_
                have hlt : fs.length < F := by rw [List.length_set] at hF; omega
                unfold namedB
                rw [if_neg (by omega), if_neg (by omega), if_neg (by omega), if_pos rfl]
                exact withB_lt hlt
              · rw [List.length_set, i5]
                simp only [cntF]
                simp
                omega
    · rename_i h8
      split at h
      · rename_i hnm
        have hkn : k = 5 ∨ k = 21 ∨ k = 22 := by simpa [isNm, or_assoc] using hnm
        split at h
        · cases h
        · rename_i k' i hfp
          cases h3 : resL gl ks lo fs with
          | bad q' e' => rw [h3] at h; cases h
          | ok z =>
            rw [h3] at h
            cases h
            obtain ⟨i1, i2, i3, i4, i5⟩ := resL_may ks h3 hrl hhl hf
            have hnb : ∀ F : Nat, namedB ((lo.length : Int), (gl.length : Int), (F : Int)) k' (i : Int) = true := fun F => by
              unfold findP at hfp
              split at hfp
              · rename_i j hj
                have hjl := idxN_lt hj
                injection hfp with hfp
                injection hfp with e1 e2
                subst e2
                unfold namedB
                split at e1
                · subst e1
                  rw [if_neg (by omega), if_pos (by omega)]
                  exact withB_lt hjl
                · subst e1
                  rw [if_neg (by omega), if_pos (by omega)]
                  exact withB_lt hjl
              · split at hfp
                · rename_i j hj
                  have hjl := idxN_lt hj
                  injection hfp with hfp
                  injection hfp with e1 e2
                  subst e2
                  unfold namedB
                  split at e1
                  · subst e1
                    rw [if_neg (by omega), if_neg (by omega), if_pos (by omega)]
                    exact withB_lt hjl
                  · subst e1
                    rw [if_neg (by omega), if_neg (by omega), if_pos (by omega)]
                    exact withB_lt hjl
                · cases hfp
            have hk' : (k = 5 ∧ (k' = 18 ∨ k' = 19)) ∨ (k ≠ 5 ∧ (k' = 33 ∨ k' = 34)) := by
              unfold findP at hfp
              split at hfp
              · injection hfp with hfp
                injection hfp with e1 e2
                split at e1 <;> omega
              · split at hfp
                · injection hfp with hfp
                  injection hfp with e1 e2
                  split at e1 <;> omega
                · cases hfp
            refine ⟨i1, by simp only [highN]; omega, ?_, fun F hF => ?_, ?_⟩
            · simp only [Nd.kind]
              unfold sortK
              rcases hk' with ⟨rfl, h1⟩ | ⟨h0, h1⟩
              · rw [if_pos (by omega), if_pos (by omega)]
              · rw [if_neg (by omega), if_neg (by omega), if_neg (by omega), if_neg (by omega)]
            · rcases hk' with ⟨rfl, h1⟩ | ⟨h0, h1⟩
              · have hc : ks = [] := by simpa [cntOk] using o5
                subst hc
                rw [resL] at h3
                cases h3
                exact leaf_right (by omega) (hnb F)
              · have hc : ks.length = 1 := by
                  rcases hkn with e | e | e
                  · omega
                  · subst e; simpa [cntOk] using o5
                  · subst e; simpa [cntOk] using o5
                exact give_right h1 (hnb F) hrl hc (by rcases hkn with e | e | e <;> first | omega | (subst e; decide)) i3 (i4 F hF)
            · rw [i5]
              simp only [cntF]
              rw [if_neg h8]
              omega
      · rename_i hnm
        have hkn : ¬ (k = 5 ∨ k = 21 ∨ k = 22) := by simpa [isNm, or_assoc] using hnm
        cases h3 : resL gl ks lo fs with
        | bad q' e' => rw [h3] at h; cases h
        | ok z =>
          rw [h3] at h
          cases h
          obtain ⟨i1, i2, i3, i4, i5⟩ := resL_may ks h3 hrl hhl hf
          refine ⟨i1, by simp only [highN]; omega, rfl, fun F hF => ?_, ?_⟩
          · have hp : plainB (.mk k o n s ns z.1 0) = true := by
              refine plain_of (a := a) (by omega) ?_
              simp only [lessN, standL_sorts i3, unK, unM]
              rw [if_neg (by omega), if_neg (by omega), if_neg (by omega)]
              rw [rightN_mk, hk, standL_right hrl]
              simp [standL, hok]
            rw [rightU, hp, rightUL_all (i4 F hF), named_plain _ _ (by omega) (by omega)]
            rfl
          · rw [i5]
            simp only [cntF]
            rw [if_neg h8]
            omega
theorem resL_may {gl : List ByteArray} : ∀ (l : List Nd) {lo : List ByteArray} {fs : List Fp} {q : List Nd × List Fp} {k : Int} {i : Nat}, resL gl l lo fs = .ok q → rightL l k i = true → highL l ≤ 11 → FsOk gl.length fs →
    FsOk gl.length q.2 ∧ highL q.1 ≤ highL l ∧ q.1.map (fun x => sortK x.kind) = l.map (fun x => sortK x.kind) ∧ (∀ F : Nat, q.2.length ≤ F → ∀ x ∈ q.1, rightU ((lo.length : Int), (gl.length : Int), (F : Int)) x = true) ∧ q.2.length = fs.length + cntFL l
  | [], lo, fs, q, k, i, h, _, _, hf => by
    rw [resL] at h
    cases h
    exact ⟨hf, Nat.le_refl _, rfl, (fun F _ x hx => by cases hx), by simp [cntFL]⟩
  | x :: r, lo, fs, q, k, i, h, hr, hh, hf => by
    rw [resL] at h
    rw [rightL, Bool.and_eq_true] at hr
    simp only [highL] at hh
    cases hd : resN gl x lo fs with
    | bad q' e' => rw [hd] at h; cases h
    | ok y =>
      rw [hd, Rz.bind_ok] at h
      cases h3 : resL gl r lo y.2 with
      | bad q' e' => rw [h3] at h; cases h
      | ok z =>
        rw [h3] at h
        cases h
        obtain ⟨j1, j2, j3, j4, j5⟩ := resN_may x hd hr.1 (want_pos k i) (by omega) hf
        obtain ⟨i1, i2, i3, i4, i5⟩ := resL_may r h3 hr.2 (by omega) j1
        refine ⟨i1, by simp only [highL]; omega, by simp [j3, i3], fun F hF w hw => ?_, by simp only [cntFL]; omega⟩
        rcases List.mem_cons.1 hw with rfl | hw
        · have hF' : z.2.length ≤ F := hF
          exact j4 F (by omega)
        · exact i4 F hF w hw
end
/-- a unit's functions, as they are checked -/
def asQ (fs : List Fp) : List (Int × Int × List Nd) := fs.map fun f => ((f.1 : Int), (f.2.1 : Int), f.2.2)
theorem fnsB_all {G F : Int} : ∀ {l : List (Int × Int × List Nd)} {i : Nat}, (∀ (j : Nat) (f : Int × Int × List Nd), l[j]? = some f → roomB (i + j) f.1 f.2.1 = true ∧ bodyU (f.2.1, G, F) f.2.2 = true) → fnsB G F l i = true
  | [], _, _ => rfl
  | f :: r, i, h => by
    have h0 := h 0 f rfl
    rw [fnsB, show roomB i f.1 f.2.1 = true from by simpa using h0.1, h0.2, fnsB_all (fun j g hj => by have := h (j + 1) g (by simpa using hj); rwa [show i + (j + 1) = i + 1 + j by omega] at this)]
    rfl
/-- what is resolved may be, and has a function for each -/
theorem resolve_may {t : Nd} {G : Nat} {fs : List Fp} (h : resolveP t = .ok (G, fs)) (h32 : fs.length ≤ 32) : checkU (G : Int) (asQ fs) = 0 ∧ fs.length = cntF t + 1 := by
  unfold resolveP at h
  split at h
  · rename_i hc
    have hc2 : highN t ≤ 12 ∧ rightN t 3 = true := by
      unfold checkN at hc
      split at hc
      · cases hc
      · split at hc
        · exact ⟨by omega, by assumption⟩
        · cases hc
    obtain ⟨k, o, n, s, ns, ks, p⟩ := t
    obtain ⟨hk, hok, hrl⟩ := right_parts hc2.2
    have hk29 : k = 29 := by have := isK_cases hk (by omega); omega
    subst hk29
    have hhl : highL ks ≤ 11 := by have := hc2.1; simp only [highN] at this; omega
    unfold wholeP at h
    simp only [Nd.kids] at h
    cases h1 : letL ks [] with
    | bad q e => rw [h1] at h; cases h
    | ok gl =>
      rw [h1, Rz.bind_ok] at h
      cases h2 : resL gl ks [] [(0, 0, [])] with
      | bad q e => rw [h2] at h; cases h
      | ok z =>
        rw [h2] at h
        cases h
        have g1 := letL_ok ks h1 (by simp)
        have hf0 : FsOk gl.length [(0, 0, [])] := fun f hf => by
          simp at hf
          subst hf
          exact ⟨Nat.zero_le _, Nat.zero_le _, Nat.zero_le _, by simp [highL], fun F _ => body_nil _⟩
        obtain ⟨i1, i2, i3, i4, i5⟩ := resL_may ks h2 hrl hhl hf0
        simp at i5
        have hlen : (z.2.set 0 (0, 0, z.1)).length = z.2.length := by simp
        rw [hlen] at h32
        have hbody : ∀ F : Nat, z.2.length ≤ F → bodyU (0, (gl.length : Int), (F : Int)) z.1 = true := fun F hF => by
          have hp : plainB (.mk 29 0 0 ⟨#[]⟩ [] z.1 0) = true := by
            refine plain_of (a := 3) (by omega) ?_
            simp only [lessN, standL_sorts i3, unK, unM]
            rw [if_neg (by omega), if_neg (by omega), if_neg (by omega)]
            have hc' : ks.length ≤ 40 := by simpa [cntOk] using (ok_parts hok).2.2.2.2
            rw [rightN_mk, standL_right hrl]
            simp [isK, okB, opOk, numOk, strOk, nsOk, cntOk, standL, hc']
            rfl
          unfold bodyU
          rw [rightU, hp, rightUL_all (fun x hx => by simpa using i4 F hF x hx)]
          simp [namedB]
        have hmem : ∀ (j : Nat) (f : Fp), (z.2.set 0 (0, 0, z.1))[j]? = some f → (j = 0 ∧ f = (0, 0, z.1)) ∨ (j ≠ 0 ∧ f ∈ z.2) := fun j f hj => by
          by_cases hj0 : j = 0
          · subst hj0
            rw [List.getElem?_set_self (by omega)] at hj
            exact .inl ⟨rfl, (Option.some.inj hj).symm⟩
          · rw [List.getElem?_set_ne (by omega)] at hj
            exact .inr ⟨hj0, List.mem_of_getElem? hj⟩
        refine ⟨?_, by rw [hlen, i5]; simp only [cntF]; simp; omega⟩
        unfold checkU
        rw [if_neg, if_pos]
        · unfold unitB asQ
          rw [List.length_map, hlen]
          rw [fnsB_all]
          · unfold withB
            rw [decide_eq_true (by omega), decide_eq_true (by omega), decide_eq_true (by omega), decide_eq_true (by omega)]
            rfl
          · intro j f hj
            rw [List.getElem?_map] at hj
            obtain ⟨g, hg, rfl⟩ := Option.map_eq_some_iff.1 hj
            rw [Nat.zero_add]
            rcases hmem j g hg with ⟨rfl, rfl⟩ | ⟨hj0, hm⟩
            · exact ⟨by simp [roomB], by simpa using hbody z.2.length (Nat.le_refl _)⟩
            · have hq := i1 g hm
              have q1 := hq.1
              have q2 := hq.2.1
              have q3 := hq.2.2.1
              refine ⟨?_, hq.2.2.2.2 _ (Nat.le_refl _)⟩
              unfold roomB withB
              dsimp only
              rw [if_neg hj0, decide_eq_true (by omega), decide_eq_true (by omega), decide_eq_true (by omega), decide_eq_true (by omega)]
              rfl
        · intro hdeep
          rw [List.any_eq_true] at hdeep
          obtain ⟨f, hf, hd⟩ := hdeep
          unfold asQ at hf
          obtain ⟨g, hg, rfl⟩ := List.mem_map.1 hf
          have hh : highL g.2.2 ≤ 11 := by
            obtain ⟨j, hj⟩ := List.getElem?_of_mem hg
            rcases hmem j g hj with ⟨_, rfl⟩ | ⟨_, hm⟩
            · dsimp only; omega
            · exact (i1 g hm).2.2.2.1
          unfold deepF at hd
          rw [List.any_eq_true] at hd
          obtain ⟨x, hx, hd⟩ := hd
          have := high_mem hx
          dsimp only at this
          rw [beq_iff_eq] at hd
          unfold checkN at hd
          rw [if_neg (by omega)] at hd
          split at hd <;> cases hd
  · cases h

end Go.Proofs.YtgdbaceehpcgbaaDoor
