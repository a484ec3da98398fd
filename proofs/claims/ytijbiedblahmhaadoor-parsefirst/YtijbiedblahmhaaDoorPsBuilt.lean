/- A built-in call. -/
import Derived.Test.YtijbiedblahmhaaDoorJoint7
import Derived.Test.YtijbiedblahmhaaDoorPsBlock
import Derived.Test.YtijbiedblahmhaaDoorTreeSign
namespace Go.Proofs.YtijbiedblahmhaaDoor
open Go.RowKit

theorem builtF_none {l : List Tok} : ∀ {s : List Int}, builtF s l = none → ∀ o ∈ s, isH l (builtT o).1 = false
  | [], _, o, ho => by cases ho
  | a :: s, h, o, ho => by
    rw [builtF] at h
    split at h
    · cases h
    · rename_i hn
      rcases List.mem_cons.1 ho with rfl | ho
      · simpa using hn
      · exact builtF_none h o ho

set_option maxRecDepth 100000 in
set_option maxHeartbeats 6400000 in
theorem built_none (P : Nat) (L l : List Tok) (w : World) (H : Hid (PSt P L w l)) (hb : builtP l = none) :
    Calls Tryd.prog 78 #[.pointer (some ⟨P, 0, none⟩)] w (Reads P L w (.bad l)) := by
  have HN := hid (show ∀ j : Nat, 1 ≤ j → j ≤ 7 → isH l (builtT (j : Int)).1 = false from fun j h1 h2 => builtF_none hb _ (by
    rcases (show j = 1 ∨ j = 2 ∨ j = 3 ∨ j = 4 ∨ j = 5 ∨ j = 6 ∨ j = 7 by omega) with rfl | rfl | rfl | rfl | rfl | rfl | rfl <;> simp))
  have A := hid ((Below.refl _ w).alloc (Nat.le_refl _) (.cells znd 26))
  have S0 := hid (H.out.on A.out)
  have B0 := hid (But.of (P := P) A.out)
  unfold znd at *
  clear H hb A
  go_enter Tryd.func78, Tryd.ntmps78
  go_wp2_with fail
  go_loopw [3] (fun i wr => ∃ j : Nat, 1 ≤ j ∧ j ≤ 8 ∧ i = .int .i64 j ∧ Hid (PSt P L wr l) ∧ Hid (But P w wr)) (fun i _ => 8 - (intOf i).toNat)
  case atStart => exact ⟨1, by omega, by omega, rfl, S0.out, B0.out⟩
  case round =>
    obtain ⟨j, hj1, hj, rfl, hS, hB⟩ := hrel
    clear S0 B0
    by_cases hj7 : j ≤ 7
    · have HNj := hid (show isH l (⟨(builtT (j : Int)).1.toArray⟩ : ByteArray).data.toList = false by simpa using HN.out j hj1 hj7)
      generalize hbt : builtT (j : Int) = bt at HNj
      have HBC := hid (fun w' => built_calls (j : Int) w')
      rw [hbt] at HBC
      clear HN hbt
      go_wp2_with fail
      refine (HBC.out _).mono ?_
      rintro e w1 ⟨rfl, rfl⟩
      clear HBC
      go_wp2_with fail
      refine (take_no P L l ⟨bt.1.toArray⟩ _ hS HNj.out).mono ?_
      rintro e w2 ⟨rfl, b2⟩
      have S2 := hid (hS.out.on b2)
      have B2 := hid (hB.out.trans (But.of b2))
      clear b2 hS hB HNj
      go_wp2_with fail
      go_roundw
      case rel => exact ⟨j + 1, by omega, by omega, by go_num, S2.out, B2.out⟩
      case measure => simp [intOf]; omega
    · clear HN
      go_wp2_with fail
      refine (giveup_calls P _).mono ?_
      rintro e w3 ⟨rfl, rfl⟩
      unfold gaveUp
      go_wp2_with fail
      exact ⟨rfl, rfl, hS.out, hB.out⟩

theorem builtP_some {l : List Tok} {o : Int} (h : builtP l = some o) : ∃ m : Nat, o = m ∧ 1 ≤ m ∧ m ≤ 7 ∧ isH l (builtT (m : Int)).1 = true ∧ ∀ j : Nat, 1 ≤ j → j < m → isH l (builtT (j : Int)).1 = false := by
  unfold builtP at h
  simp only [builtF] at h
  by_cases h1 : isH l (builtT 1).1 = true
  · rw [if_pos h1] at h; injection h with h; exact ⟨1, h.symm, by omega, by omega, h1, fun j a b => by omega⟩
  rw [if_neg h1] at h
  by_cases h2 : isH l (builtT 2).1 = true
  · rw [if_pos h2] at h; injection h with h
    refine ⟨2, h.symm, by omega, by omega, h2, fun j a b => ?_⟩
    obtain rfl : j = 1 := by omega
    simpa using h1
  rw [if_neg h2] at h
  by_cases h3 : isH l (builtT 3).1 = true
  · rw [if_pos h3] at h; injection h with h
    refine ⟨3, h.symm, by omega, by omega, h3, fun j a b => ?_⟩
    obtain rfl | rfl : j = 1 ∨ j = 2 := by omega
    · simpa using h1
    · simpa using h2
  rw [if_neg h3] at h
  by_cases h4 : isH l (builtT 4).1 = true
  · rw [if_pos h4] at h; injection h with h
    refine ⟨4, h.symm, by omega, by omega, h4, fun j a b => ?_⟩
    obtain rfl | rfl | rfl : j = 1 ∨ j = 2 ∨ j = 3 := by omega
    · simpa using h1
    · simpa using h2
    · simpa using h3
  rw [if_neg h4] at h
  by_cases h5 : isH l (builtT 5).1 = true
  · rw [if_pos h5] at h; injection h with h
    refine ⟨5, h.symm, by omega, by omega, h5, fun j a b => ?_⟩
    obtain rfl | rfl | rfl | rfl : j = 1 ∨ j = 2 ∨ j = 3 ∨ j = 4 := by omega
    · simpa using h1
    · simpa using h2
    · simpa using h3
    · simpa using h4
  rw [if_neg h5] at h
  by_cases h6 : isH l (builtT 6).1 = true
  · rw [if_pos h6] at h; injection h with h
    refine ⟨6, h.symm, by omega, by omega, h6, fun j a b => ?_⟩
    obtain rfl | rfl | rfl | rfl | rfl : j = 1 ∨ j = 2 ∨ j = 3 ∨ j = 4 ∨ j = 5 := by omega
    · simpa using h1
    · simpa using h2
    · simpa using h3
    · simpa using h4
    · simpa using h5
  rw [if_neg h6] at h
  by_cases h7 : isH l (builtT 7).1 = true
  · rw [if_pos h7] at h; injection h with h
    refine ⟨7, h.symm, by omega, by omega, h7, fun j a b => ?_⟩
    obtain rfl | rfl | rfl | rfl | rfl | rfl : j = 1 ∨ j = 2 ∨ j = 3 ∨ j = 4 ∨ j = 5 ∨ j = 6 := by omega
    · simpa using h1
    · simpa using h2
    · simpa using h3
    · simpa using h4
    · simpa using h5
    · simpa using h6
  rw [if_neg h7] at h
  cases h

set_option maxRecDepth 100000 in
set_option maxHeartbeats 6400000 in
theorem built_some (o : PL) (m : Nat) (P : Nat) (L : List Tok) (t : Tok) (q : List Tok) (w : World) (hO : ∀ w', Hid (PSt P L w' q) → Calls Tryd.prog 89 #[.pointer (some ⟨P, 0, none⟩), .int .i64 (builtT (m : Int)).2] w' (ReadsS P L w' o)) (H : Hid (PSt P L w (t :: q))) (hm1 : 1 ≤ m) (hm7 : m ≤ 7) (hy : isT t (builtT (m : Int)).1 = true) (hn : ∀ j : Nat, 1 ≤ j → j < m → isT t (builtT (j : Int)).1 = false) :
    Calls Tryd.prog 78 #[.pointer (some ⟨P, 0, none⟩)] w (Reads P L w (o.bind fun _ ks l => .ok (ndO 17 m ks) false l)) := by
  have HN := hid (show ∀ j : Nat, 1 ≤ j → j < m → isH (t :: q) (builtT (j : Int)).1 = false from hn)
  have HY := hid hy
  have HD := hid hO
  have hP := H.out.lt
  have A := hid ((Below.refl _ w).alloc (Nat.le_refl _) (.cells znd 26))
  have S0 := hid (H.out.on A.out)
  have G0 := hid (blk_new w 26 znd)
  have B0 := hid (But.of (P := P) A.out)
  unfold znd at *
  clear H hy hn hO A
  go_enter Tryd.func78, Tryd.ntmps78
  go_wp2_with fail
  go_loopw [3] (fun i wr => ∃ j : Nat, 1 ≤ j ∧ j ≤ m ∧ i = .int .i64 j ∧ Hid (PSt P L wr (t :: q)) ∧ Hid (But P w wr) ∧ Hid (Blk w.heap.size 26 #[.int .i64 0, .int .i64 0, .int .i64 0, .string ⟨#[]⟩, .slice none 0 0, .slice none 0 0, .int .i64 0] wr)) (fun i _ => 8 - (intOf i).toNat)
  case atStart => exact ⟨1, by omega, by omega, rfl, S0.out, B0.out, G0.out⟩
  case round =>
    obtain ⟨j, hj1, hj, rfl, hS, hB, hG⟩ := hrel
    clear S0 B0 G0
    have hj7 : j ≤ 7 := by omega
    have hg1 := blk_lt hG.out
    by_cases hjm : j = m
    · subst hjm
      have HYj := hid (show isT t (⟨(builtT (j : Int)).1.toArray⟩ : ByteArray).data.toList = true by simpa using HY.out)
      have HBC := hid (fun w' => built_calls (j : Int) w')
      generalize hbt : builtT (j : Int) = bt at HYj HBC HD
      clear HN HY hbt
      cases o with
      | bad l' =>
        go_wp2_with fail
        refine (HBC.out _).mono ?_
        rintro e w1 ⟨rfl, rfl⟩
        clear HBC
        go_wp2_with fail
        refine (take_yes P L t q ⟨bt.1.toArray⟩ _ hS HYj.out).mono ?_
        rintro e w2 ⟨rfl, s2, b2⟩
        have S2 := hid s2
        have B2 := hid (hB.out.trans b2)
        clear s2 b2 hS hB hG HYj
        go_wp2_with fail
        refine (HD.out _ S2).mono ?_
        rintro e w3 ⟨rfl, s3, b3⟩
        have S3 := hid s3
        have B3 := hid (B2.out.trans b3)
        clear s3 b3 S2 B2 HD
        unfold gaveUp
        go_wp2_with fail
        exact ⟨rfl, rfl, S3.out, B3.out⟩
      | ok ns ks l' =>
        go_wp2_with fail
        refine (HBC.out _).mono ?_
        rintro e w1 ⟨rfl, rfl⟩
        clear HBC
        go_wp2_with fail
        refine (take_yes P L t q ⟨bt.1.toArray⟩ _ hS HYj.out).mono ?_
        rintro e w2 ⟨rfl, s2, b2⟩
        have S2 := hid s2
        have B2 := hid (hB.out.trans b2)
        have G2 := hid (blk_but hG.out b2 (by omega))
        have hg2 := blk_lt G2.out
        clear s2 b2 hS hB hG HYj
        go_wp2_with fail
        refine (HD.out _ S2).mono ?_
        rintro e w3 ⟨⟨kv, rfl, n3⟩, s3, b3⟩
        obtain ⟨a1, q1, rfl⟩ := kdR_shape n3
        have S3 := hid s3
        have B3 := hid (B2.out.trans b3)
        have G3 := hid (blk_but G2.out b3 (by omega))
        have N3 := hid (kdR_low (lo' := w.heap.size + 1) (by omega) n3)
        have hg3 := blk_lt G3.out
        obtain ⟨r0, r1, r2, r3, r4, r5, r6⟩ := cells7 G3.out
        obtain ⟨u0, u1, u2, u3, u4, u5, u6⟩ := frees7 G3.out
        clear s3 b3 n3 S2 B2 G2 HD
        go_wp2_with fail
        have Z := fin_put hP (Nat.le_refl _) S3.out B3.out G3.out (.int .i64 17) (.int .i64 j) (.int .i64 0) (.string ⟨#[]⟩) (.slice none 0 0) (.slice a1 ks.length q1) (.int .i64 0)
        exact bodyPost_ret (ret_nd rfl rfl Z.1) rfl ⟨⟨_, _, rfl, ndR_mk2 ⟨st_nil, kdR_low (Nat.le_succ _) (kdR_aft (put7_aft w3 (Nat.lt_succ_self _) _ _ _ _ _ _ _) N3.out)⟩⟩, Z.2.1, Z.2.2⟩
    · have HNj := hid (show isH (t :: q) (⟨(builtT (j : Int)).1.toArray⟩ : ByteArray).data.toList = false by simpa using HN.out j hj1 (by omega))
      generalize hbt : builtT (j : Int) = bt at HNj
      have HBC := hid (fun w' => built_calls (j : Int) w')
      rw [hbt] at HBC
      clear HN HY HD hbt
      go_wp2_with fail
      refine (HBC.out _).mono ?_
      rintro e w1 ⟨rfl, rfl⟩
      clear HBC
      go_wp2_with fail
      refine (take_no P L (t :: q) ⟨bt.1.toArray⟩ _ hS HNj.out).mono ?_
      rintro e w2 ⟨rfl, b2⟩
      have S2 := hid (hS.out.on b2)
      have B2 := hid (hB.out.trans (But.of b2))
      have G2 := hid (blk_on hG.out b2)
      clear b2 hS hB hG HNj
      go_wp2_with fail
      go_roundw
      case rel => exact ⟨j + 1, by omega, by omega, by go_num, S2.out, B2.out, G2.out⟩
      case measure => simp [intOf]; omega

end Go.Proofs.YtijbiedblahmhaaDoor
