/- Expressions of any rank. All of the parser, by induction over the fuel. One step of reading tokens. Tokens that may be come back from their text. -/
import Derived.Test.YtijbiedblahmhaaDoorPsBetw2
import Derived.Test.YtijbiedblahmhaaDoorPsBetw3
import Derived.Test.YtijbiedblahmhaaDoorPsBetw4
import Derived.Test.YtijbiedblahmhaaDoorPsBetw5
import Derived.Test.YtijbiedblahmhaaDoorPsBetw6
import Derived.Test.YtijbiedblahmhaaDoorJoint15
import Derived.Test.YtijbiedblahmhaaDoorJoint18
import Derived.Test.YtijbiedblahmhaaDoorJoint8
import Derived.Test.YtijbiedblahmhaaDoorJoint2
namespace Go.Proofs.YtijbiedblahmhaaDoor
open Go.RowKit

theorem rank_succ (f : Nat) (hR : ∀ g, g ≤ f → RankC g) (hP : PostC f) : RankC (f + 1) := by
  intro r P L l w h1 h7 hf H
  rw [pRank]
  by_cases h : 7 ≤ r
  · rw [if_pos h]
    have : r = 7 := by omega
    subst this
    show Calls Tryd.prog 93 _ w _
    cases hm : isH l [45] with
    | true =>
      obtain ⟨t, q, rfl, ht⟩ := isH_some hm
      exact un_minus f (hR f (Nat.le_refl _)) P L t q w (by simp at hf; omega) H ht
    | false =>
      cases hn : isH l [33] with
      | true =>
        obtain ⟨t, q, rfl, ht⟩ := isH_some hn
        exact un_not f (hR f (Nat.le_refl _)) P L t q w (by simp at hf; omega) H hm ht
      | false => exact un_post f hP P L l w (by omega) H hm hn
  · rw [if_neg h]
    obtain rfl | rfl | rfl | rfl | rfl | rfl : r = 1 ∨ r = 2 ∨ r = 3 ∨ r = 4 ∨ r = 5 ∨ r = 6 := by omega
    · exact rank_1 f hR P L l w (by omega) H
    · exact rank_2 f hR P L l w (by omega) H
    · exact rank_3 f hR P L l w (by omega) H
    · exact rank_4 f hR P L l w (by omega) H
    · exact rank_5 f hR P L l w (by omega) H
    · exact rank_6 f hR P L l w (by omega) H

end Go.Proofs.YtijbiedblahmhaaDoor

namespace Go.Proofs.YtijbiedblahmhaaDoor
open Go.RowKit

theorem short_calls (f : Nat) (hR : RankC f) (hP : PostC f) : ShortC (f + 1) := by
  intro P L l w hf H
  cases l with
  | nil => exact absurd rfl H.out.ne
  | cons t q =>
    have hf1 : 20 * q.length + 10 ≤ f := by simp at hf; omega
    have hf2 : 20 * (t :: q).length + 10 ≤ f := by omega
    rw [pShort]
    by_cases h1 : isH (t :: q) [108, 101, 116] = true
    · rw [if_pos h1]
      exact short_let f hR P L t q w hf1 H h1
    · rw [if_neg h1]
      have n1 : isH (t :: q) [108, 101, 116] = false := by simpa using h1
      by_cases h2 : isH (t :: q) [112, 114, 105, 110, 116] = true
      · rw [if_pos h2]
        exact short_print f hR P L t q w hf1 H n1 h2
      · rw [if_neg h2]
        have n2 : isH (t :: q) [112, 114, 105, 110, 116] = false := by simpa using h2
        by_cases h3 : isH (t :: q) [114, 101, 116, 117, 114, 110] = true
        · rw [if_pos h3]
          exact short_return f hR P L t q w hf1 H n1 n2 h3
        · rw [if_neg h3]
          have n3 : isH (t :: q) [114, 101, 116, 117, 114, 110] = false := by simpa using h3
          by_cases h4 : isH (t :: q) [100, 101, 108, 101, 116, 101] = true
          · rw [if_pos h4]
            exact short_del f hP P L t q w (by omega) H n1 n2 n3 h4
          · rw [if_neg h4]
            have n4 : isH (t :: q) [100, 101, 108, 101, 116, 101] = false := by simpa using h4
            generalize t :: q = l at *
            cases hq : pRank f 1 l with
            | bad l' =>
              rw [PR.bind_bad]
              exact short_bad f hR P L l w hf2 H n1 n2 n3 n4 l' hq
            | ok x b l' =>
              rw [PR.bind_ok]
              by_cases hn : b = true ∧ isH l' [61] = true
              · rw [if_pos hn]
                obtain ⟨hb, hh⟩ := hn
                subst hb
                obtain ⟨u, z, hz, hu⟩ := isH_some hh
                rw [show l'.tail = z by rw [hz]; rfl]
                cases hr : pRank f 1 z with
                | bad l3 =>
                  rw [PR.bind_bad]
                  exact short_setbad f hR P L l w hf2 H n1 n2 n3 n4 x u z l' hz hq hu l3 hr
                | ok y c l3 =>
                  rw [PR.bind_ok]
                  exact short_set f hR P L l w hf2 H n1 n2 n3 n4 x u z l' hz hq hu y c l3 hr
              · rw [if_neg hn]
                exact short_expr f hR P L l w hf2 H n1 n2 n3 n4 x b l' hq hn

/-- what is known of all of it at a fuel -/
structure EvC (f : Nat) : Prop where
  rank : RankC f
  post : PostC f
  atom : AtomC f
  call : CallC f
  ask : AskC f
  short : ShortC f
  stmt : StmtC f
  stmts : StmtsC f
  block : BlockC f
theorem ev_zero : EvC 0 where
  rank := fun r P L l w h1 h7 hf => absurd hf (by omega)
  post := fun P L l w hf => absurd hf (by omega)
  atom := fun P L l w hf => absurd hf (by omega)
  call := fun P L l ok x nv kv w hf => absurd hf (by omega)
  ask := fun P L l w hf => absurd hf (by omega)
  short := fun P L l w hf => absurd hf (by omega)
  stmt := fun P L l w hf => absurd hf (by omega)
  stmts := fun P L l w hf => absurd hf (by omega)
  block := fun P L l w hf => absurd hf (by omega)
theorem obj_all (f : Nat) (hR : ∀ g, g ≤ f → RankC g) : ObjC f := by
  by_cases h : 2 ≤ f
  · obtain ⟨f, rfl⟩ : ∃ g, f = g + 2 := ⟨f - 2, by omega⟩
    exact obj_calls f (fun g hg => hR g (by omega))
  · exact fun P L l w hf => absurd hf (by omega)
theorem ev_succ (f : Nat) (h : ∀ g, g ≤ f → EvC g) : EvC (f + 1) := by
  have hs : StmtC (f + 1) := stmt_calls f (h f (Nat.le_refl _)).ask (h f (Nat.le_refl _)).block (h f (Nat.le_refl _)).short
  exact {
    rank := rank_succ f (fun g hg => (h g hg).rank) (h f (Nat.le_refl _)).post
    post := fun P L l w hf H => by
      rw [pPost]
      exact post_calls f (h f (Nat.le_refl _)).atom (fun g hg => (h g hg).rank) (fun g hg => (h g hg).call) P L l w (by omega) H
    atom := atom_calls f (h f (Nat.le_refl _)).rank (obj_all f (fun g hg => (h g hg).rank)) (fn_calls f (h f (Nat.le_refl _)).block) (builts f (h f (Nat.le_refl _)).rank)
    call := call_calls f (fun g hg P kb pb lo L ok C => call1_calls g (h g hg).rank P kb pb lo L ok C)
    ask := ask_calls f (h f (Nat.le_refl _)).rank
    short := short_calls f (h f (Nat.le_refl _)).rank (h f (Nat.le_refl _)).post
    stmt := hs
    stmts := stmts_calls (f + 1) (fun g hg => by
      rcases Nat.lt_or_ge f g with h1 | h1
      · obtain rfl : g = f + 1 := by omega
        exact hs
      · exact (h g h1).stmt)
    block := block_calls f (h f (Nat.le_refl _)).stmts }
theorem ev_all : ∀ f : Nat, EvC f := by
  intro f
  induction f using Nat.strongRecOn with
  | _ f ih =>
    cases f with
    | zero => exact ev_zero
    | succ f => exact ev_succ f (fun g hg => ih g (by omega))
/-- a program, an expression, whatever the fuel, if it is large enough -/
theorem program_calls (f P : Nat) (L l : List Tok) (w : World) (hf : 20 * l.length + 14 ≤ f) (H : Hid (PSt P L w l)) :
    Calls Tryd.prog 8 #[.pointer (some ⟨P, 0, none⟩)] w (Reads P L w ((pStmts f [] l).bind fun _ ks l => .ok (ndK 29 ks) false l)) :=
  prog_calls f (ev_all f).stmts P L l w hf H
theorem or_calls (f P : Nat) (L l : List Tok) (w : World) (hf : 20 * l.length + 14 ≤ f) (H : Hid (PSt P L w l)) :
    Calls Tryd.prog 43 #[.pointer (some ⟨P, 0, none⟩)] w (Reads P L w (pRank f 1 l)) :=
  (ev_all f).rank 1 P L l w (by omega) (by omega) (by omega) H

end Go.Proofs.YtijbiedblahmhaaDoor

namespace Go.Proofs.YtijbiedblahmhaaDoor
open Go.RowKit

theorem tokGo_end {s : ByteArray} {f k : Nat} {acc : List Tok} (h : s.size ≤ k) : tokGo s (f + 1) k acc = (acc ++ [⟨6, ⟨#[]⟩, 0, s.size⟩], 0, 0) := by rw [tokGo, if_pos h]
theorem tokGo_bad {s : ByteArray} {f k : Nat} {acc : List Tok} {o : TokOut} (h : k < s.size) (ho : oneOut (s.data.toList.drop k) k = o) (he : o.2.2 ≠ 0) : tokGo s (f + 1) k acc = ([], o.2.1, o.2.2) := by
  rw [tokGo, if_neg (by omega), ho, if_pos he]
theorem tokGo_full {s : ByteArray} {f k : Nat} {acc : List Tok} {o : TokOut} (h : k < s.size) (ho : oneOut (s.data.toList.drop k) k = o) (he : o.2.2 = 0) (hf : acc.length = 600) : tokGo s (f + 1) k acc = ([], k, 5) := by
  rw [tokGo, if_neg (by omega), ho, if_neg (by rw [he]; decide), if_pos hf]
theorem tokGo_more {s : ByteArray} {f k : Nat} {acc : List Tok} {o : TokOut} (h : k < s.size) (ho : oneOut (s.data.toList.drop k) k = o) (he : o.2.2 = 0) (hf : acc.length ≠ 600) :
    tokGo s (f + 1) k acc = tokGo s f (skipTo false s o.2.1) (acc ++ [o.1]) := by
  rw [tokGo, if_neg (by omega), ho, if_neg (by rw [he]; decide), if_neg hf]

end Go.Proofs.YtijbiedblahmhaaDoor

namespace Go.Proofs.YtijbiedblahmhaaDoor
open Go.RowKit

theorem dec_all : ∀ (f m : Nat), (dec f m).all isDig = true
  | 0, _ => by simp [dec]
  | f + 1, m => by
    unfold dec; split
    · rename_i h
      simp only [List.all_cons, List.all_nil, isDig, small_toNat h]; simp; omega
    · rw [List.all_append, dec_all f (m / 10)]
      simp only [List.all_cons, List.all_nil, isDig, dig_toNat]; simp; omega

theorem dec_ne : ∀ (f m : Nat), dec (f + 1) m ≠ [] := by
  intro f m
  unfold dec; split <;> simp

theorem dec_reads : ∀ (f m : Nat), m < 10 ^ f → (m ≤ 4611686018427387903 → rst (dec f m) = ((m : Int), false)) ∧ (4611686018427387903 < m → (rst (dec f m)).2 = true)
  | 0, m, h => by
    have : m = 0 := by simpa using h
    subst this
    exact ⟨fun _ => rfl, fun h => absurd h (by decide)⟩
  | f + 1, m, h => by
    by_cases hs : m < 10
    · rw [dec_small hs]
      refine ⟨fun _ => ?_, fun h => by omega⟩
      simp only [rst, List.foldl_cons, List.foldl_nil, small_toNat hs, rstep]
      rw [if_neg (by simp; omega)]
      simp; omega
    · rw [dec_big (by omega), rst_snoc, dig_toNat]
      have hq : m / 10 < 10 ^ f := by rw [Nat.pow_succ] at h; omega
      have ih := dec_reads f (m / 10) hq
      refine ⟨fun hm => ?_, fun hm => ?_⟩
      · rw [ih.1 (by omega)]
        unfold rstep
        rw [if_neg (by simp; omega)]
        simp; omega
      · by_cases hq2 : m / 10 ≤ 4611686018427387903
        · rw [ih.1 hq2]
          unfold rstep
          rw [if_pos (by right; simp; omega)]
        · unfold rstep
          rw [if_pos (Or.inl (ih.2 (by omega)))]

theorem back_in {n : Int} (h0 : 0 ≤ n) (h1 : n ≤ 4611686018427387903) : readOut (digs n) = (n, 0) := by
  unfold digs
  rw [if_neg (by omega), readOut_good (dec_ne _ _) (dec_all _ _), (dec_reads 20 n.natAbs (by omega)).1 (by omega)]
  unfold rout
  simp; omega

theorem runL_all {p : Nat → Bool} {c : UInt8} {r : List UInt8} (hc : p c.toNat = false) : ∀ x : List UInt8, (∀ b ∈ x, p b.toNat = true) → runL p (x ++ c :: r) = x.length
  | [], _ => by simp [runL, hc]
  | b :: x, h => by
    have h1 := h b (by simp)
    have h2 := runL_all (r := r) hc x (fun y hy => h y (by simp [hy]))
    simp [runL, h1, h2]
theorem take_all (x r : List UInt8) : (x ++ r).take x.length = x := by simp

theorem bytes_of (s : ByteArray) : (⟨s.data.toList.toArray⟩ : ByteArray) = s := by cases s; simp

theorem word_back {x r : List UInt8} {k : Nat} (hw : ∀ b ∈ x, wordN b.toNat = true) :
    wordOut (x ++ 32 :: r) k = if keyB x then (⟨2, ⟨x.toArray⟩, 0, k⟩, k + x.length, 0) else if nameB x then (⟨1, ⟨x.toArray⟩, 0, k⟩, k + x.length, 0) else (Tok.zero, k, 11) := by
  unfold wordOut
  rw [runL_all (by decide) x hw, take_all]

theorem one_word {b : UInt8} {x r : List UInt8} {k : Nat} (h : letterN b.toNat = true) : oneOut (b :: x ++ r) k = wordOut (b :: x ++ r) k := by
  show oneOut (b :: (x ++ r)) k = wordOut (b :: (x ++ r)) k
  unfold oneOut
  simp only
  rw [if_pos h]

theorem letter_word {n : Nat} (h : letterN n = true) : wordN n = true := by simp [wordN, h]
theorem digit_word {n : Nat} (h : digitN n = true) : wordN n = true := by simp [wordN, h]
theorem digit_letter {n : Nat} (h : digitN n = true) : letterN n = false := by
  simp [digitN] at h
  simp [letterN]; omega

theorem key_shape : ∀ x ∈ keyL, ∃ b r, x = b :: r ∧ letterN b.toNat = true ∧ ∀ c ∈ x, wordN c.toNat = true := by
  have h : ∀ x ∈ keyL, (match x with | [] => false | b :: _ => letterN b.toNat) = true ∧ x.all (fun c => wordN c.toNat) = true := by decide
  intro x hx
  obtain ⟨h1, h2⟩ := h x hx
  cases x with
  | nil => cases h1
  | cons b r => exact ⟨b, r, rfl, h1, fun c hc => List.all_eq_true.1 h2 c hc⟩
theorem name_shape {x : List UInt8} (h : nameB x = true) : ∃ b r, x = b :: r ∧ letterN b.toNat = true ∧ ∀ c ∈ x, wordN c.toNat = true := by
  cases x with
  | nil => cases h
  | cons b r =>
    simp only [nameB, Bool.and_eq_true, List.all_eq_true] at h
    refine ⟨b, r, rfl, h.1.1, ?_⟩
    intro c hc
    rcases List.mem_cons.1 hc with rfl | hc
    · exact letter_word h.1.1
    · exact h.1.2 c hc

theorem sgn_back (x : List UInt8) (h : x ∈ sgnL) (r : List UInt8) (k : Nat) : oneOut (x ++ 32 :: r) k = (⟨5, ⟨x.toArray⟩, 0, k⟩, k + x.length, 0) := by
  simp only [sgnL, List.mem_cons, List.not_mem_nil, or_false] at h
  rcases h with rfl | rfl | rfl | rfl | rfl | rfl | rfl | rfl | rfl | rfl | rfl | rfl | rfl | rfl | rfl | rfl | rfl | rfl | rfl | rfl | rfl | rfl | rfl | rfl | rfl <;> rfl

/-- a token that may be, its place apart -/
def Tok.put (t : Tok) (k : Nat) : Tok := ⟨t.kind, t.text, t.num, k⟩

theorem one_back {t : Tok} (hr : rightTok t = true) (h6 : t.kind ≠ 6) (r : List UInt8) (k : Nat) : oneOut (tokText t ++ 32 :: r) k = (t.put k, k + (tokText t).length, 0) := by
  obtain ⟨kd, x, n, p⟩ := t
  simp only at h6
  unfold rightTok at hr
  simp only at hr
  by_cases h3 : kd = 3
  · subst h3
    rw [if_pos rfl, Bool.and_eq_true, Bool.and_eq_true, decide_eq_true_iff, decide_eq_true_iff, beq_iff_eq] at hr
    obtain ⟨n0, n1, hx⟩ := hr
    have hb := back_in n0 n1
    have hall : (digs n).all isDig = true := by
      unfold digs; rw [if_neg (by omega)]; exact dec_all _ _
    have hd : ∀ b ∈ digs n, digitN b.toNat = true := by
      intro b hb
      have := List.all_eq_true.1 hall b hb
      simp [isDig] at this
      simp [digitN]; omega
    have ht : tokText ⟨3, x, n, p⟩ = digs n := by unfold tokText; rw [if_neg (by simp)]; exact hx
    have hxb : x = ⟨(digs n).toArray⟩ := by rw [← hx, bytes_of]
    rw [ht]
    have hne : digs n ≠ [] := by unfold digs; rw [if_neg (by omega)]; exact dec_ne _ _
    cases hdg : digs n with
    | nil => exact absurd hdg hne
    | cons b y =>
      have hb1 := hd b (by rw [hdg]; simp)
      have ho : oneOut (b :: y ++ 32 :: r) k = numbOut (b :: y ++ 32 :: r) k := by
        show oneOut (b :: (y ++ 32 :: r)) k = numbOut (b :: (y ++ 32 :: r)) k
        unfold oneOut
        simp only
        rw [if_neg (by rw [digit_letter hb1]; decide), if_pos hb1]
      rw [ho, ← hdg]
      unfold numbOut
      rw [runL_all (by decide) _ hd, take_all, hb, if_pos rfl]
      simp [Tok.put, hxb]
  · rw [if_neg h3] at hr
    by_cases hn : n = 0
    · subst hn
      rw [if_pos rfl] at hr
      by_cases h4 : kd = 4
      · subst h4
        simp at hr
        have ht : tokText ⟨4, x, 0, p⟩ = quoted x.data.toList := by unfold tokText; rw [if_pos rfl]
        rw [ht]
        have ho : oneOut (quoted x.data.toList ++ 32 :: r) k = quoOut (quoted x.data.toList ++ 32 :: r) k := rfl
        rw [ho]
        unfold quoOut
        rw [takeOut_quoted]
        simp only
        rw [if_pos trivial, if_neg (by rw [list_size]; omega), bytes_of]
        rfl
      · have ht : tokText ⟨kd, x, 0, p⟩ = x.data.toList := by unfold tokText; rw [if_neg h4]
        rw [ht]
        by_cases h1 : kd = 1
        · subst h1
          simp at hr
          obtain ⟨b, y, hx, hl, hw⟩ := name_shape hr.1
          rw [hx, one_word hl, ← hx, word_back hw, hr.2, if_neg (by decide), hr.1, if_pos rfl, bytes_of]
          rfl
        · by_cases h2 : kd = 2
          · subst h2
            simp at hr
            obtain ⟨b, y, hx, hl, hw⟩ := key_shape _ (List.contains_iff_mem.1 hr)
            rw [hx, one_word hl, ← hx, word_back hw, hr, if_pos rfl, bytes_of]
            rfl
          · by_cases h5 : kd = 5
            · subst h5
              simp at hr
              rw [sgn_back _ hr, bytes_of]
              rfl
            · rw [if_neg h1, if_neg h2, if_neg h4, if_neg h5, if_neg h6] at hr
              cases hr
    · rw [if_neg hn] at hr
      cases hr

theorem blank_bad {b : UInt8} {y : List UInt8} {k : Nat} (h : blankN b.toNat = true) : (oneOut (b :: y) k).2.2 = 11 := by
  have h3 : b = 32 ∨ b = 10 ∨ b = 9 := by
    simp [blankN] at h
    rcases h with h | h | h
    · left; exact UInt8.toNat_inj.1 h
    · right; left; exact UInt8.toNat_inj.1 h
    · right; right; exact UInt8.toNat_inj.1 h
  rcases h3 with rfl | rfl | rfl <;> rfl

theorem no_skip_one {t : Tok} (hr : rightTok t = true) (h6 : t.kind ≠ 6) (r : List UInt8) : skipL false (tokText t ++ 32 :: r) = 0 := by
  have h := one_back hr h6 r 0
  cases hl : tokText t ++ 32 :: r with
  | nil => simp at hl
  | cons b y =>
    rw [hl] at h
    have hb : blankN b.toNat = false := by
      cases hq : blankN b.toNat with
      | false => rfl
      | true =>
        have := blank_bad (y := y) (k := 0) hq
        rw [h] at this; cases this
    have hs : slashes (b :: y) = false := by
      cases hq : slashes (b :: y) with
      | false => rfl
      | true =>
        cases y with
        | nil => cases hq
        | cons c z =>
          simp [slashes] at hq
          have e1 : b = 47 := UInt8.toNat_inj.1 hq.1
          have e2 : c = 47 := UInt8.toNat_inj.1 hq.2
          subst e1 e2
          have h1 : oneOut (47 :: 47 :: z) 0 = (⟨5, ⟨#[47]⟩, 0, (0 : Nat)⟩, 1, 0) := rfl
          rw [h1] at h
          have h2 : (tokText t).length = 1 := by
            have := congrArg (fun o : TokOut => o.2.1) h
            simp at this; omega
          obtain ⟨a, ha⟩ := List.length_eq_one_iff.1 h2
          rw [ha] at hl
          simp at hl
    simp [skipL, hs, hb]

theorem printL_cons (t : Tok) (l : List Tok) : printL (t :: l) = tokText t ++ 32 :: printL l := by simp [printL]
theorem no_skip (l : List Tok) (h : ∀ t ∈ l, rightTok t = true ∧ t.kind ≠ 6) : skipL false (printL l) = 0 := by
  cases l with
  | nil => rfl
  | cons t l =>
    rw [printL_cons]
    exact no_skip_one (h t (by simp)).1 (h t (by simp)).2 _

/-- a token without its place -/
def bare (t : Tok) : Int × ByteArray × Int := (t.kind, t.text, t.num)

theorem back_go (s : ByteArray) : ∀ (l : List Tok) (f k : Nat) (acc : List Tok), s.data.toList.drop k = printL l → (∀ t ∈ l, rightTok t = true ∧ t.kind ≠ 6) → l.length < f → acc.length ≤ 600 →
    (acc.length + l.length ≤ 600 → ∃ out, tokGo s f k acc = (out, 0, 0) ∧ out.map bare = (acc ++ l).map bare ++ [(6, ⟨#[]⟩, 0)]) ∧ (600 < acc.length + l.length → ∃ p, tokGo s f k acc = ([], p, 5))
  | [], f, k, acc, hd, _, hf, ha => by
    obtain ⟨f, rfl⟩ : ∃ f', f = f' + 1 := ⟨f - 1, by simp at hf; omega⟩
    have hk : s.size ≤ k := by
      have := congrArg List.length hd
      rw [List.length_drop, list_size] at this
      simp [printL] at this; omega
    refine ⟨fun _ => ⟨_, tokGo_end hk, by simp [bare]⟩, fun h => by simp at h; omega⟩
  | t :: l, f, k, acc, hd, hr, hf, ha => by
    obtain ⟨f, rfl⟩ : ∃ f', f = f' + 1 := ⟨f - 1, by simp at hf; omega⟩
    rw [printL_cons] at hd
    obtain ⟨h1, h6⟩ := hr t (by simp)
    have hk : k < s.size := by
      rcases Nat.lt_or_ge k s.size with h | h
      · exact h
      · rw [drop_end s k h] at hd; simp at hd
    have ho : oneOut (s.data.toList.drop k) k = (t.put k, k + (tokText t).length, 0) := by rw [hd]; exact one_back h1 h6 _ _
    by_cases h600 : acc.length = 600
    · refine ⟨fun h => by simp at h; omega, fun _ => ⟨k, tokGo_full hk ho rfl h600⟩⟩
    · have hd2 : s.data.toList.drop (k + (tokText t).length) = 32 :: printL l := by
        rw [← List.drop_drop, hd]; simp
      have hd3 : s.data.toList.drop (k + (tokText t).length + 1) = printL l := by
        rw [← List.drop_drop, hd2]; simp
      have hsk : skipTo false s (k + (tokText t).length) = k + (tokText t).length + 1 := by
        unfold skipTo
        rw [hd2]
        have hs : slashes (32 :: printL l) = false := by cases printL l <;> simp [slashes]
        have := no_skip l (fun u hu => hr u (by simp [hu]))
        simp [skipL, hs, this, blankN]
      have hm := tokGo_more (f := f) (acc := acc) hk ho rfl h600
      simp only at hm
      rw [hsk] at hm
      have ih := back_go s l f (k + (tokText t).length + 1) (acc ++ [t.put k]) hd3 (fun u hu => hr u (by simp [hu])) (by simp at hf; omega) (by simp; omega)
      rw [hm]
      have hb : bare (t.put k) = bare t := rfl
      refine ⟨fun h => ?_, fun h => ?_⟩
      · obtain ⟨out, e1, e2⟩ := ih.1 (by simp at h ⊢; omega)
        refine ⟨out, e1, ?_⟩
        rw [e2]
        simp [hb]
      · exact ih.2 (by simp at h ⊢; omega)

theorem printL_ge : ∀ l : List Tok, l.length ≤ (printL l).length
  | [] => Nat.le_refl _
  | t :: l => by
    have := printL_ge l
    rw [printL_cons]; simp; omega

theorem back_out (l : List Tok) (s : ByteArray) (hs : s.data.toList = printL l) (hr : ∀ t ∈ l, rightTok t = true ∧ t.kind ≠ 6) :
    (2000 < s.size → tokOut s = ([], 0, 3)) ∧ (s.size ≤ 2000 → 600 < l.length → ∃ p, tokOut s = ([], p, 5)) ∧
    (s.size ≤ 2000 → l.length ≤ 600 → ∃ out, tokOut s = (out, 0, 0) ∧ out.map bare = l.map bare ++ [(6, ⟨#[]⟩, 0)]) := by
  have h0 : skipTo false s 0 = 0 := by
    unfold skipTo
    rw [List.drop_zero, hs, no_skip l hr]
  have hsz : s.size = (printL l).length := by rw [← hs, list_size]
  have hge := printL_ge l
  have h := back_go s l (s.size + 1) 0 [] (by rw [List.drop_zero, hs]) hr (by omega) (by simp)
  refine ⟨fun h1 => ?_, fun h1 h2 => ?_, fun h1 h2 => ?_⟩
  · unfold tokOut; rw [if_pos h1]
  · obtain ⟨p, hp⟩ := h.2 (by simpa using h2)
    exact ⟨p, by unfold tokOut; rw [if_neg (by omega), h0, hp]⟩
  · obtain ⟨out, e1, e2⟩ := h.1 (by simpa using h2)
    exact ⟨out, by unfold tokOut; rw [if_neg (by omega), h0, e1], by simpa using e2⟩

end Go.Proofs.YtijbiedblahmhaaDoor
