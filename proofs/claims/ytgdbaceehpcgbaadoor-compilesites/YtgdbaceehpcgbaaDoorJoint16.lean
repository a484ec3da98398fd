/- What the program lays for a node, and for some. What comes of a unit, plainly: it may be; its steps, its sites, its strings. -/
import Derived.Test.YtgdbaceehpcgbaaDoorCpNd
import Derived.Test.YtgdbaceehpcgbaaDoorJoint14
namespace Go.Proofs.YtgdbaceehpcgbaaDoor
set_option linter.unusedSimpArgs false
open Go.RowKit

/-- room for so many nodes and things more -/
structure Rm (I : List In) (c : Cs) (n d : Nat) : Prop where
  ins : I.length + d + 4 * n ≤ 900000
  txt : c.1.length + d + 4 * n ≤ 900000
  lo : 0 ≤ c.2
  hi : c.2 + d + 4 * n ≤ 900000
theorem Rm.to {I : List In} {c : Cs} {n d m e : Nat} (h : Rm I c n d) (h1 : 4 * m + e ≤ 4 * n + d) (_ : 4 * m + e ≤ 4 * n + d) : Rm I c m e := ⟨by have := h.ins; omega, by have := h.txt; omega, h.lo, by have := h.hi; omega⟩
theorem Rm.node {I : List In} {c : Cs} {m d : Nat} {t : Nd} (h : Rm I c (countN t + m) d) : Rm (joinC I (cN t c).1) (cN t c).2 m (d + 1) := by
  have h1 := cN_len t c
  obtain ⟨a, b, e, f⟩ := h
  exact ⟨by rw [join_len]; omega, by omega, by omega, by push_cast at *; omega⟩
theorem Rm.one {I : List In} {c : Cs} {n d : Nat} (x : In) (h : Rm I c n (d + 1)) : Rm (I ++ [x]) c n d := by
  obtain ⟨a, b, e, f⟩ := h
  exact ⟨by simp; omega, by omega, e, by omega⟩
theorem Rm.site {I : List In} {c : Cs} {n d : Nat} (x : In) (op : Int) (s : ByteArray) (h : Rm I c n (d + 1)) : Rm (I ++ [x]) (siteC op s c).2 n d := by
  obtain ⟨a, b, e, f⟩ := h
  have := ofT_le c.1 s
  exact ⟨by simp; omega, by simp only [siteC]; omega, by simp only [siteC]; omega, by simp only [siteC]; omega⟩
theorem Rm.put {I : List In} {c : Cs} {n d : Nat} (i : Nat) (a : Int) (h : Rm I c n d) : Rm (putA I i a) c n d := ⟨by rw [putA_len]; exact h.ins, h.txt, h.lo, h.hi⟩
theorem Rm.many {I : List In} {c : Cs} {m d : Nat} {ks : List Nd} (h : Rm I c (countL ks + m) d) : Rm (joinC I (kN ks c).1) (kN ks c).2 m d := by
  have h1 := kN_len ks c
  obtain ⟨a, b, e, f⟩ := h
  exact ⟨by rw [join_len]; omega, by omega, by omega, by push_cast at *; omega⟩
theorem On.on {S0 T : Nat → Prop} {l p : Nat} {I : List In} {c : Cs} {W0 w u : World} (h : On S0 W0 l p I c T w) (A : Below w.heap.size w u) : On S0 W0 l p I c T u :=
  ⟨h.ly.on A, h.keep.trans (Keep.of (S := fun _ => False) A) (fun _ _ q => q.elim), h.sub⟩

/-- what the program lays for a node is what comes of it -/
def Lays (t : Nd) : Prop := ∀ (S : Nat → Prop) (l p : Nat) (I : List In) (c : Cs) (B : Nat) (w : World) (nv kv : Value), Hid (B ≤ w.heap.size) → Hid (∀ b, S b → B ≤ b) → Hid (LyS S l p I c w) → Hid (NdIn B w t nv kv) → Hid (Rm I c (countN t) 0) →
  Calls Tryd.prog 52 #[.pointer (some ⟨l, 0, none⟩), ndA t nv kv] w fun e w' => e = .returned (.tuple #[]) ∧ Gone S l p (joinC I (cN t c).1) (cN t c).2 w w'
set_option maxHeartbeats 1600000 in
theorem nodes_of (ks : List Nd) (HK : Hid (∀ x ∈ ks, Lays x)) (S : Nat → Prop) (l p : Nat) (I : List In) (c : Cs) (B : Nat) (w : World) (kv : Value) (hB : Hid (B ≤ w.heap.size)) (hS : Hid (∀ b, S b → B ≤ b)) (hL : Hid (LyS S l p I c w)) (hN : Hid (KidsIn B w kv ks)) (hR : Hid (Rm I c (countL ks) 0)) :
    Calls Tryd.prog 31 #[.pointer (some ⟨l, 0, none⟩), kv] w fun e w' => e = .returned (.tuple #[]) ∧ Gone S l p (joinC I (kN ks c).1) (kN ks c).2 w w' := by
  obtain ⟨ao, cap, rfl, hks⟩ := kidsIn_cases hN.out
  have KS := hid hks
  have h0 := hL.out.mono (T := fun b => S b ∧ b < w.heap.size) (fun b hb q => ⟨q, hb⟩)
  have hS0 : Hid (∀ b, (S b ∧ b < w.heap.size) → B ≤ b) := hid (fun b q => hS.out b q.1)
  have HST := hid (On.start h0)
  have hlen : ks.length ≤ 1000000 := by
    have h1 := length_count ks
    have := hR.out.ins
    omega
  generalize hF : joinC I (kN ks c).1 = F
  generalize hG : (kN ks c).2 = G
  have HF := hid hF
  have HG := hid hG
  clear hks h0 hF hG hN
  go_enter Tryd.func31, Tryd.ntmps31
  go_wp2_with fail
  go_loopw [8] (fun i wr => ∃ (j : Nat) (J : List In) (d : Cs) (T : Nat → Prop), j ≤ ks.length ∧ i = .int .i64 j ∧ On (fun b => S b ∧ b < w.heap.size) w l p J d T wr ∧ Rm J d (countL (ks.drop j)) 0 ∧ joinC J (kN (ks.drop j) d).1 = F ∧ (kN (ks.drop j) d).2 = G) (fun i _ => ks.length - (intOf i).toNat)
  case atStart => exact ⟨0, I, c, _, Nat.zero_le _, rfl, HST.out, hR.out, HF.out, HG.out⟩
  case round =>
    obtain ⟨j, J, d, T, hj, rfl, hO, hRm, hE1, hE2⟩ := hrel
    by_cases hjl : j < ks.length
    · obtain ⟨b, off, rfl, hbB, hat⟩ := KS.out.resolve_left (fun h => by rw [h] at hjl; cases hjl)
      obtain ⟨nv', kv', hnode, hin⟩ := ndsAt_get hat j hjl
      have hb' := hO.low hB.out hS0.out
      obtain ⟨c0, c1, c2, c3, c4, c5, c6⟩ := nodeAt_on hnode hbB hb'
      have hin' := ndIn_on hb' _ _ _ hin
      have ih := HK.out ks[j] (List.getElem_mem hjl)
      have hd : ks.drop j = ks[j] :: ks.drop (j + 1) := List.drop_eq_getElem_cons hjl
      rw [hd] at hRm hE1 hE2
      rw [kN_cons] at hE1 hE2
      rw [← join_assoc] at hE1
      rw [countL] at hRm
      generalize ks[j] = x at *
      have hsz := hO.keep.size
      have hwr : B ≤ wr.heap.size := Nat.le_trans hB.out hsz
      obtain ⟨a1, q1, a2, q2, rfl, rfl⟩ := ndIn_shape hin
      have IH := hid ih
      have HO := hid hO
      have N := hid hin'
      have E1 := hid hE1
      have E2 := hid hE2
      have RM := hid hRm
      clear hin hin' hnode hat hb' ih KS HK hO hE1 hE2 hRm hd
      have AB := hid ((Below.refl wr.heap.size wr).alloc (Nat.le_refl _) (.cells #[.int .i64 x.kind, .int .i64 x.op, .int .i64 x.num, .string x.str, .slice a1 x.names.length q1, .slice a2 x.kids.length q2, .int .i64 x.pl] 47))
      have HO2 := hid (HO.out.on AB.out)
      go_wp2_with fail
      refine (IH.out T l p J d B _ _ _ (hid (by simp; omega)) (hid (HO2.out.lowT hB.out hS0.out)) (hid HO2.out.ly) (hid (ndIn_on (AB.out.mono hwr) _ _ _ N.out)) (hid (RM.out.to (by omega) (by omega)))).mono ?_
      rintro e w1 ⟨rfl, g1⟩
      have G1 := hid (HO2.out.step g1)
      clear g1
      go_wp2_with fail
      go_roundw
      case rel => exact ⟨j + 1, _, _, _, by omega, by go_num, G1.out, RM.out.node.to (by omega) (by omega), E1.out, E2.out⟩
      case measure => simp [intOf]; omega
    · have e : ks.drop j = [] := List.drop_eq_nil_iff.2 (by omega)
      rw [e, kN_nil] at hE1 hE2
      simp only [join_nil] at hE1 hE2
      have HO := hid hO
      have E1 := hid hE1
      have E2 := hid hE2
      clear hO hE1 hE2 KS e hRm
      go_wp2_with fail
      go_end0
      exact ⟨rfl, E1.out ▸ E2.out ▸ HO.out.fin (Below.refl _ _) (fun b q => q.1)⟩
end Go.Proofs.YtgdbaceehpcgbaaDoor

namespace Go.Proofs.YtgdbaceehpcgbaaDoor
open Go.RowKit

/-- what comes of a unit -/
def unitC (G : Int) (fs : List (Int × Int × List Nd)) : Cz :=
  if checkU G fs ≠ 0 then .bad (checkU G fs) else match fnsC fs [] with
    | .bad e => .bad e
    | .ok cs L => if 120 < L.length then .bad 5 else .ok cs L
/-- codes of functions, the strings ahead and behind -/
def BuiltC : List (Int × Int × List Nd) → List ByteArray → List Cd → List ByteArray → Prop
  | [], L, [], M => M = L
  | f :: r, L, c :: cs, M => c = codeC f L ∧ (bodyC f.2.2 L).1.length ≤ 4000 ∧ deepC (bodyC f.2.2 L).1 ≤ 64 ∧ BuiltC r (bodyC f.2.2 L).2.1 cs M
  | _, _, _, _ => False
theorem built_of : ∀ {fs : List (Int × Int × List Nd)} {L : List ByteArray} {cs : List Cd} {M : List ByteArray}, fnsC fs L = .ok cs M → BuiltC fs L cs M
  | [], L, cs, M, h => by
    rw [fnsC] at h
    cases h
    rfl
  | f :: r, L, cs, M, h => by
    rw [fnsC] at h
    split at h
    · cases h
    · split at h
      · cases h
      · cases hr : fnsC r (bodyC f.2.2 L).2.1 with
        | bad e => rw [hr] at h; cases h
        | ok cs' M' =>
          rw [hr] at h
          cases h
          exact ⟨rfl, by omega, by omega, built_of hr⟩
theorem okAll_of {G P C : Int} {c : Cd} : ∀ (r : List In) (k : Nat), (∀ (i : Nat) x, r[i]? = some x → okI G P C c (k + i) x = true) → okAll G P C c k r = true
  | [], k, _ => rfl
  | y :: r, k, h => by
    unfold okAll
    rw [Bool.and_eq_true]
    refine ⟨h 0 y rfl, okAll_of r (k + 1) fun i x hx => ?_⟩
    have := h (i + 1) x (by simpa using hx)
    rwa [show k + (i + 1) = k + 1 + i by omega] at this
theorem span_n {G P C l n o : Int} (h : goB o = false) : spanP G P C l n o = spanP G P C l 0 o := by
  have : ¬ (o = 22 ∨ o = 23 ∨ o = 24 ∨ o = 25) := by intro h'; rcases h' with rfl | rfl | rfl | rfl <;> exact absurd h (by decide)
  unfold spanP
  rw [if_neg this, if_neg this]
theorem nx_goes {x : In} (h : goB x.1 = true) (k : Nat) (d : Int) : ∃ e, (x.2.1, e) ∈ nxI x.1 x.2.1 k d := by
  have h32 : x.1 ≠ 32 := by intro e; rw [e] at h; exact absurd h (by decide)
  unfold nxI
  rw [if_neg h32]
  split
  · exact ⟨_, List.mem_singleton.2 rfl⟩
  · first
      | (rw [if_pos h]; exact ⟨_, List.mem_cons_of_mem _ (List.mem_singleton.2 rfl)⟩)
      | exact ⟨_, List.mem_cons_of_mem _ (List.mem_singleton.2 rfl)⟩
theorem code_right {G C : Int} {f : Int × Int × List Nd} {L : List ByteArray} {i : Nat} {M : Nat} (hr : roomD i f.1 f.2.1 = true) (hb : (f.2.2.all fun x => rightD (f.2.1, G, C) x 2) = true)
    (hn : (bodyC f.2.2 L).1.length ≤ 4000) (hd : deepC (bodyC f.2.2 L).1 ≤ 64) (hM : (bodyC f.2.2 L).2.1.length ≤ M) : rightC G M C (codeC f L) = true ∧ ∃ ds, Flow (codeC f L) ds := by
  have hlist := body_list (bb := (f.2.1, G, C)) f.2.2 0 hb
  have hge := ge_body hb L
  have hai := (ai_cK (G := G) (C := C) (l := f.2.1) 29 ⟨#[]⟩ f.2.2 [] 0 hlist (L, 0) (Int.le_refl _)).2
  have hle := (ai_cK (G := G) (C := C) (l := f.2.1) 29 ⟨#[]⟩ f.2.2 [] 0 hlist (L, 0) (Int.le_refl _)).1
  have hsit := sit_len _ _ _ (sit_body f.2.2 L)
  unfold roomD at hr
  simp at hr
  unfold codeC
  have hfl := fun (k : Nat) x hx => body_flow hge (k := k) (x := x) hx
  refine ⟨?_, flow_of _ _ _ _ (by simp [bodyC]) fun k x hx => ⟨(hfl k x hx).1, fun t e hm => ?_⟩⟩
  · unfold rightC
    simp only [Bool.and_eq_true]
    refine ⟨inZ_iff.2 (by omega), inZ_iff.2 (by omega), inZ_iff.2 (by omega), inZ_iff.2 ⟨deep_zero _, hd⟩, inZ_iff.2 ⟨by simp [bodyC]; omega, by omega⟩, okAll_of _ 0 fun k x hx => ?_⟩
    rw [Nat.zero_add]
    obtain ⟨_, g2⟩ := hfl k x hx
    have hA : AI G M C f.2.1 (bodyC f.2.2 L).2.2 x := by
      have hm := List.mem_of_getElem? hx
      rcases List.mem_append.1 hm with h | h
      · have h1 := ais_all hai x h
        refine ai_mono (c := (bodyC f.2.2 L).2) (d := (List.replicate M ⟨#[]⟩, (bodyC f.2.2 L).2.2)) ⟨by simpa using hM, Int.le_refl _⟩ h1 |> fun q => ?_
        simpa using q
      · simp at h
        rcases h with rfl | rfl
        · exact ⟨by simp, fun _ => by simp [spanP], rfl⟩
        · exact ⟨by simp, fun _ => by simp [spanP], rfl⟩
    unfold okI rightI
    rw [Bool.and_eq_true, Bool.and_eq_true, Bool.and_eq_true]
    refine ⟨⟨inZ_iff.2 hA.1, ?_, ?_⟩, ?_⟩
    · by_cases hg : goB x.1 = true
      · rw [span_goes hg]
        obtain ⟨e, he⟩ := nx_goes hg k (linC (bodyC f.2.2 L).1 k)
        obtain ⟨j, hj, hj2, _⟩ := g2 _ _ he
        refine inZ_iff.2 ⟨by omega, ?_⟩
        show x.2.1 ≤ ((bodyC f.2.2 L).1.length : Int) - 1
        unfold bodyC
        simp only
        omega
      · have hg' : goB x.1 = false := by simpa using hg
        rw [span_n hg']
        exact inZ_iff.2 (hA.2.1 hg')
    · have h3 := hA.2.2
      split
      · rename_i hs
        rw [if_pos hs] at h3
        exact inZ_iff.2 h3
      · rename_i hs
        rw [if_neg hs] at h3
        exact beq_iff_eq.2 h3
    · by_cases hg : goB x.1 = true
      · rw [hg]
        by_cases hk : x.2.1 ≤ (k : Int)
        · obtain ⟨e, he⟩ := nx_goes hg k (linC (bodyC f.2.2 L).1 k)
          obtain ⟨j, hj, _, _, ht⟩ := g2 _ _ he
          obtain ⟨q, hq1, hq2⟩ := ht hg (by omega)
          have : opA (bodyC f.2.2 L).1 x.2.1.toNat = 1 := by
            unfold opA
            rw [hj, Int.toNat_natCast]
            have hq3 : (bodyC f.2.2 L).1[j]? = some q := by
              unfold bodyC
              rw [List.getElem?_append_left (List.getElem?_eq_some_iff.1 hq1).1]
              exact hq1
            rw [hq3]; exact hq2
          rw [this]; simp
        · rw [decide_eq_false hk]; rfl
      · rw [show goB x.1 = false by simpa using hg]; rfl
  · obtain ⟨j, h1, h2, h3, _⟩ := (hfl k x hx).2 t e hm
    exact ⟨j, h1, h2, h3⟩
/-- all of the functions -/
theorem built_right {G F : Int} : ∀ {fs : List (Int × Int × List Nd)} {i : Nat} {L : List ByteArray} {cs : List Cd} {M : List ByteArray}, fnsB G F fs i = true → BuiltC fs L cs M →
    (∀ c ∈ cs, rightC G M.length F c = true ∧ ∃ ds, Flow c ds) ∧ cs.length = fs.length ∧ L.length ≤ M.length ∧ (SzC (L, 0) → SzC (M, 0))
  | [], i, L, [], M, _, h => by
    obtain rfl : M = L := h
    exact ⟨(fun c hc => by cases hc), rfl, Nat.le_refl _, id⟩
  | f :: r, i, L, c :: cs, M, hf, h => by
    obtain ⟨rfl, h1, h2, h3⟩ := h
    rw [fnsB, Bool.and_eq_true, Bool.and_eq_true] at hf
    obtain ⟨⟨hroom, hbody⟩, hrest⟩ := hf
    rw [← room_same] at hroom
    rw [← body_same] at hbody
    unfold bodyD at hbody
    rw [Bool.and_eq_true] at hbody
    obtain ⟨g1, g2, g3, g4⟩ := built_right hrest h3
    have hlist := body_list (bb := (f.2.1, G, F)) f.2.2 0 hbody.2
    have hle := (ai_cK (G := G) (C := F) (l := f.2.1) 29 ⟨#[]⟩ f.2.2 [] 0 hlist (L, 0) (Int.le_refl _)).1.1
    refine ⟨fun c hc => ?_, by simp [g2], Nat.le_trans hle g3, fun hs => g4 ?_⟩
    · rcases List.mem_cons.1 hc with rfl | hc
      · exact code_right hroom hbody.2 h1 h2 g3
      · exact g1 c hc
    · have := sz_cK (bb := (f.2.1, G, F)) 29 ⟨#[]⟩ f.2.2 [] 0 hlist (by decide) (fun h => absurd h (by decide)) (L, 0) hs
      exact this
  | [], _, _, _ :: _, _, _, h => h.elim
  | _ :: _, _, _, [], _, _, h => h.elim
theorem built_ticks : ∀ {fs : List (Int × Int × List Nd)} {L : List ByteArray} {cs : List Cd} {M : List ByteArray}, BuiltC fs L cs M → (cs.map fun c => tickS c.ins).sum = ((fs.map fun f => countL f.2.2).sum : Nat)
  | [], L, [], M, _ => rfl
  | f :: r, L, c :: cs, M, h => by
    obtain ⟨rfl, _, _, h3⟩ := h
    rw [List.map_cons, List.sum_cons, List.map_cons, List.sum_cons, built_ticks h3]
    show tickS (bodyC f.2.2 L).1 + _ = _
    rw [tick_body]
    simp
  | [], _, _ :: _, _, h => h.elim
  | _ :: _, _, [], _, h => h.elim
theorem built_sites : ∀ {fs : List (Int × Int × List Nd)} {L : List ByteArray} {cs : List Cd} {M : List ByteArray}, BuiltC fs L cs M → ∀ c ∈ cs, sitG c.ins 0 = some c.s
  | [], L, [], M, _ => fun c hc => by cases hc
  | f :: r, L, c :: cs, M, h => by
    obtain ⟨rfl, _, _, h3⟩ := h
    intro c hc
    rcases List.mem_cons.1 hc with rfl | hc
    · exact sit_body f.2.2 L
    · exact built_sites h3 c hc
  | [], _, _ :: _, _, h => h.elim
  | _ :: _, _, [], _, h => h.elim
theorem built_new : ∀ {fs : List (Int × Int × List Nd)} {L : List ByteArray} {cs : List Cd} {M : List ByteArray}, BuiltC fs L cs M → NewC (L, 0) (M, 0) (fun i => ∃ c ∈ cs, Us c.ins i)
  | [], L, [], M, h => by
    obtain rfl : M = L := h
    exact new_refl _ _
  | f :: r, L, c :: cs, M, h => by
    obtain ⟨rfl, _, _, h3⟩ := h
    have h1 := new_body f.2.2 L
    have h2 := built_new h3
    refine ⟨h2.1 ∘ h1.1, Nat.le_trans h1.2.1 h2.2.1, fun i g1 g2 => ?_⟩
    rcases Nat.lt_or_ge i (bodyC f.2.2 L).2.1.length with hi | hi
    · exact ⟨_, List.mem_cons_self, h1.2.2 i g1 hi⟩
    · obtain ⟨c, hc, hu⟩ := h2.2.2 i hi g2
      exact ⟨c, List.mem_cons_of_mem _ hc, hu⟩
  | [], _, _ :: _, _, h => h.elim
  | _ :: _, _, [], _, h => h.elim
theorem built_at : ∀ {fs : List (Int × Int × List Nd)} {L : List ByteArray} {cs : List Cd} {M : List ByteArray}, BuiltC fs L cs M → ∀ (j : Nat) c f, cs[j]? = some c → fs[j]? = some f → c.p = f.1 ∧ c.l = f.2.1
  | [], L, [], M, _ => fun j c f h _ => by simp at h
  | f :: r, L, c :: cs, M, h => by
    obtain ⟨rfl, _, _, h3⟩ := h
    intro j d g h1 h2
    cases j with
    | zero => simp at h1 h2; subst h1 h2; exact ⟨rfl, rfl⟩
    | succ j => exact built_at h3 j d g (by simpa using h1) (by simpa using h2)
  | [], _, _ :: _, _, h => h.elim
  | _ :: _, _, [], _, h => h.elim
/-- what comes of a unit may be -/
theorem unit_ok {G : Int} {fs : List (Int × Int × List Nd)} {cs : List Cd} {L : List ByteArray} (h : unitC G fs = .ok cs L) :
    BuiltC fs [] cs L ∧ cs.length = fs.length ∧ sizesB ⟨G, L, cs⟩ = true ∧ ∀ c ∈ cs, rightC G L.length cs.length c = true ∧ ∃ ds, Flow c ds := by
  unfold unitC at h
  split at h
  · cases h
  · rename_i hc
    have hu : unitB G fs = true := by
      cases hb : unitB G fs with
      | true => rfl
      | false =>
        exfalso; apply hc; unfold checkU; rw [hb]
        split
        · rename_i hd
          intro _
          apply hc
          unfold checkU; rw [hd, if_pos rfl]; decide
        · decide
    cases hf : fnsC fs [] with
    | bad e => rw [hf] at h; cases h
    | ok cs' L' =>
      rw [hf] at h
      simp only at h
      split at h
      · cases h
      · rename_i hl
        cases h
        have hB := built_of hf
        unfold unitB at hu
        rw [Bool.and_eq_true, Bool.and_eq_true] at hu
        obtain ⟨⟨h1, h2⟩, h3⟩ := hu
        obtain ⟨g1, g2, _, g4⟩ := built_right h3 hB
        have hs := g4 (fun s hs => by cases hs)
        refine ⟨hB, g2, ?_, fun c hc => by rw [g2]; exact g1 c hc⟩
        unfold withB at h1 h2
        rw [Bool.and_eq_true, decide_eq_true_eq, decide_eq_true_eq] at h1 h2
        unfold sizesB
        simp only [Bool.and_eq_true]
        refine ⟨inZ_iff.2 h1, inZ_iff.2 (by rw [g2]; exact h2), decide_eq_true (by omega), List.all_eq_true.2 fun s hm => decide_eq_true (hs s hm), ?_⟩
        cases fs with
        | nil => simp at h2
        | cons f r =>
          cases cs with
          | nil => simp at g2
          | cons c cs =>
            have ha := built_at hB 0 c f rfl rfl
            rw [fnsB, Bool.and_eq_true, Bool.and_eq_true] at h3
            have hr := h3.1.1
            unfold roomB at hr
            rw [if_pos rfl, Bool.and_eq_true, beq_iff_eq, beq_iff_eq] at hr
            show ((c.p == 0) && (c.l == 0)) = true
            rw [ha.1, ha.2, hr.1, hr.2]; rfl

end Go.Proofs.YtgdbaceehpcgbaaDoor
