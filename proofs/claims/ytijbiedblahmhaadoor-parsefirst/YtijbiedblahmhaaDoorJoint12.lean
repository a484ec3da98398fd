/- All of the parser, by induction over the fuel. How high a tree is. -/
import Derived.Test.YtijbiedblahmhaaDoorJoint10
import Derived.Test.YtijbiedblahmhaaDoorPsFn
import Derived.Test.YtijbiedblahmhaaDoorJoint6
import Derived.Test.YtijbiedblahmhaaDoorNdMem
namespace Go.Proofs.YtijbiedblahmhaaDoor
open Go.RowKit

theorem short_calls (f : Nat) (hR : RankC f) (hP : PostC f) : ShortC (f + 1) := by
  intro P L l w hf H
  cases l with
  | nil => exact absurd rfl H.out.ne
  | cons t q =>
    have hf1 : 20 * q.length + 10 ≤ f := by simp at hf; omega
    have hf2 : 20 * (t :: q).length + 10 ≤ f := by omega
    rw [pShort]
    by_cases h1 : isH (t :: q) [108, 101, 116] = true
    · rw [if_pos h1]
      exact short_let f hR P L t q w hf1 H h1
    · rw [if_neg h1]
      have n1 : isH (t :: q) [108, 101, 116] = false := by simpa using h1
      by_cases h2 : isH (t :: q) [112, 114, 105, 110, 116] = true
      · rw [if_pos h2]
        exact short_print f hR P L t q w hf1 H n1 h2
      · rw [if_neg h2]
        have n2 : isH (t :: q) [112, 114, 105, 110, 116] = false := by simpa using h2
        by_cases h3 : isH (t :: q) [114, 101, 116, 117, 114, 110] = true
        · rw [if_pos h3]
          exact short_return f hR P L t q w hf1 H n1 n2 h3
        · rw [if_neg h3]
          have n3 : isH (t :: q) [114, 101, 116, 117, 114, 110] = false := by simpa using h3
          by_cases h4 : isH (t :: q) [100, 101, 108, 101, 116, 101] = true
          · rw [if_pos h4]
            exact short_del f hP P L t q w (by omega) H n1 n2 n3 h4
          · rw [if_neg h4]
            have n4 : isH (t :: q) [100, 101, 108, 101, 116, 101] = false := by simpa using h4
            generalize t :: q = l at *
            cases hq : pRank f 1 l with
            | bad l' =>
              rw [PR.bind_bad]
              exact short_bad f hR P L l w hf2 H n1 n2 n3 n4 l' hq
            | ok x b l' =>
              rw [PR.bind_ok]
              by_cases hn : b = true ∧ isH l' [61] = true
              · rw [if_pos hn]
                obtain ⟨hb, hh⟩ := hn
                subst hb
                obtain ⟨u, z, hz, hu⟩ := isH_some hh
                rw [show l'.tail = z by rw [hz]; rfl]
                cases hr : pRank f 1 z with
                | bad l3 =>
                  rw [PR.bind_bad]
                  exact short_setbad f hR P L l w hf2 H n1 n2 n3 n4 x u z l' hz hq hu l3 hr
                | ok y c l3 =>
                  rw [PR.bind_ok]
                  exact short_set f hR P L l w hf2 H n1 n2 n3 n4 x u z l' hz hq hu y c l3 hr
              · rw [if_neg hn]
                exact short_expr f hR P L l w hf2 H n1 n2 n3 n4 x b l' hq hn

/-- what is known of all of it at a fuel -/
structure EvC (f : Nat) : Prop where
  rank : RankC f
  post : PostC f
  atom : AtomC f
  call : CallC f
  ask : AskC f
  short : ShortC f
  stmt : StmtC f
  stmts : StmtsC f
  block : BlockC f
theorem ev_zero : EvC 0 where
  rank := fun r P L l w h1 h7 hf => absurd hf (by omega)
  post := fun P L l w hf => absurd hf (by omega)
  atom := fun P L l w hf => absurd hf (by omega)
  call := fun P L l ok x nv kv w hf => absurd hf (by omega)
  ask := fun P L l w hf => absurd hf (by omega)
  short := fun P L l w hf => absurd hf (by omega)
  stmt := fun P L l w hf => absurd hf (by omega)
  stmts := fun P L l w hf => absurd hf (by omega)
  block := fun P L l w hf => absurd hf (by omega)
theorem obj_all (f : Nat) (hR : ∀ g, g ≤ f → RankC g) : ObjC f := by
  by_cases h : 2 ≤ f
  · obtain ⟨f, rfl⟩ : ∃ g, f = g + 2 := ⟨f - 2, by omega⟩
    exact obj_calls f (fun g hg => hR g (by omega))
  · exact fun P L l w hf => absurd hf (by omega)
theorem ev_succ (f : Nat) (h : ∀ g, g ≤ f → EvC g) : EvC (f + 1) := by
  have hs : StmtC (f + 1) := stmt_calls f (h f (Nat.le_refl _)).ask (h f (Nat.le_refl _)).block (h f (Nat.le_refl _)).short
  exact {
    rank := rank_succ f (fun g hg => (h g hg).rank) (h f (Nat.le_refl _)).post
    post := fun P L l w hf H => by
      rw [pPost]
      exact post_calls f (h f (Nat.le_refl _)).atom (fun g hg => (h g hg).rank) (fun g hg => (h g hg).call) P L l w (by omega) H
    atom := atom_calls f (h f (Nat.le_refl _)).rank (obj_all f (fun g hg => (h g hg).rank)) (fn_calls f (h f (Nat.le_refl _)).block) (builts f (h f (Nat.le_refl _)).rank)
    call := call_calls f (fun g hg P kb pb lo L ok C => call1_calls g (h g hg).rank P kb pb lo L ok C)
    ask := ask_calls f (h f (Nat.le_refl _)).rank
    short := short_calls f (h f (Nat.le_refl _)).rank (h f (Nat.le_refl _)).post
    stmt := hs
    stmts := stmts_calls (f + 1) (fun g hg => by
      rcases Nat.lt_or_ge f g with h1 | h1
      · obtain rfl : g = f + 1 := by omega
        exact hs
      · exact (h g h1).stmt)
    block := block_calls f (h f (Nat.le_refl _)).stmts }
theorem ev_all : ∀ f : Nat, EvC f := by
  intro f
  induction f using Nat.strongRecOn with
  | _ f ih =>
    cases f with
    | zero => exact ev_zero
    | succ f => exact ev_succ f (fun g hg => ih g (by omega))
/-- a program, an expression, whatever the fuel, if it is large enough -/
theorem program_calls (f P : Nat) (L l : List Tok) (w : World) (hf : 20 * l.length + 14 ≤ f) (H : Hid (PSt P L w l)) :
    Calls Tryd.prog 8 #[.pointer (some ⟨P, 0, none⟩)] w (Reads P L w ((pStmts f [] l).bind fun _ ks l => .ok (ndK 29 ks) false l)) :=
  prog_calls f (ev_all f).stmts P L l w hf H
theorem or_calls (f P : Nat) (L l : List Tok) (w : World) (hf : 20 * l.length + 14 ≤ f) (H : Hid (PSt P L w l)) :
    Calls Tryd.prog 43 #[.pointer (some ⟨P, 0, none⟩)] w (Reads P L w (pRank f 1 l)) :=
  (ev_all f).rank 1 P L l w (by omega) (by omega) (by omega) H

end Go.Proofs.YtijbiedblahmhaaDoor

namespace Go.Proofs.YtijbiedblahmhaaDoor
open Go.RowKit

theorem take_one {α : Type} (l : List α) (i : Nat) (h : i < l.length) : l.take (i + 1) = l.take i ++ [l[i]] := by
  rw [List.take_succ_eq_append_getElem h]

set_option maxHeartbeats 1600000 in
theorem height_calls (t : Nd) : ∀ (B : Nat) (w : World) (nv kv : Value), B ≤ w.heap.size → Hid (NdIn B w t nv kv) → countN t ≤ 1000000 →
    Calls Tryd.prog 13 #[.agg #[.int .i64 t.kind, .int .i64 t.op, .int .i64 t.num, .string t.str, nv, kv, .int .i64 t.pl]] w fun e w' =>
      e = .returned (.int .i64 (highN t)) ∧ Below w.heap.size w w' := by
  refine Nd.ind (P := fun t => ∀ (B : Nat) (w : World) (nv kv : Value), B ≤ w.heap.size → Hid (NdIn B w t nv kv) → countN t ≤ 1000000 →
    Calls Tryd.prog 13 #[.agg #[.int .i64 t.kind, .int .i64 t.op, .int .i64 t.num, .string t.str, nv, kv, .int .i64 t.pl]] w fun e w' =>
      e = .returned (.int .i64 (highN t)) ∧ Below w.heap.size w w') ?_ t
  clear t
  intro k o n s ns ks p ih B w nv kv hB hN hc
  obtain ⟨hs, hk⟩ := ndIn_mk.1 hN.out
  obtain ⟨ao, cap, rfl, hks⟩ := kidsIn_cases hk
  clear hk hN hs
  have hlen := length_count ks
  have hhc := highL_count ks
  simp only [countN] at hc
  simp only [Nd.kind, Nd.op, Nd.num, Nd.str, Nd.pl]
  have IH := hid ih
  have KS := hid hks
  have HC := hid (show highN (.mk k o n s ns ks p) = highL ks + 1 by simp [highN])
  clear ih hks
  go_enter Tryd.func13, Tryd.ntmps13
  go_wp2_with fail
  go_loopw [3, 9] (fun a i wr => ∃ j : Nat, j ≤ ks.length ∧ i = .int .i64 j ∧ a = .int .i64 (highL (ks.take j)) ∧ Below w.heap.size w wr) (fun _ i _ => ks.length - (intOf i).toNat)
  case atStart => exact ⟨0, Nat.zero_le _, rfl, rfl, (Below.refl _ _).alloc (Nat.le_refl _) _⟩
  case round =>
    obtain ⟨j, hj, rfl, rfl, hb⟩ := hrel
    have hct := highL_take ks j
    by_cases hjl : j < ks.length
    · obtain ⟨b, off, rfl, hbB, hat⟩ := KS.out.resolve_left (fun h => by rw [h] at hjl; cases hjl)
      obtain ⟨nv', kv', hnode, hin⟩ := ndsAt_get hat j hjl
      have hb' := hb.mono hB
      obtain ⟨c0, c1, c2, c3, c4, c5, c6⟩ := nodeAt_on hnode hbB hb'
      have hin' := ndIn_on hb' _ _ _ hin
      have ih := IH.out ks[j] (List.getElem_mem hjl)
      have hcm := count_mem (List.getElem_mem hjl)
      have HT := hid (show highL (ks.take (j + 1)) = max (highL (ks.take j)) (highN ks[j]) by rw [take_one ks j hjl, highL_snoc])
      have hct1 := highL_take ks (j + 1)
      rw [HT.out] at hct1
      generalize ks[j] = x at *
      have N := hid hin'
      have BB := hid hb
      have hsz := hb.size
      obtain ⟨a1, q1, a2, q2, rfl, rfl⟩ := ndIn_shape hin
      have IH' := hid ih
      clear hin hin' hnode hat hb hb' ih KS IH
      go_wp2_with fail
      refine (IH'.out B _ _ _ (by simp; omega) (hid (ndIn_on ((Below.refl B wr).alloc (by omega) _) _ _ _ N.out)) (by omega)).mono ?_
      rintro e w1 ⟨rfl, b1⟩
      have B1 := hid ((BB.out.alloc hsz _).trans (b1.mono (by simp; omega)))
      clear b1 BB N
      go_wp2_with fail
      go_roundw
      case rel => exact ⟨j + 1, by omega, by go_num, by rw [HT.out]; go_num, B1.out⟩
      case measure => simp [intOf]; omega
    · have e : ks.take j = ks := List.take_of_length_le (by omega)
      have BB := hid hb
      clear hb
      go_wp2_with fail
      go_ret
      exact ⟨by rw [HC.out, e]; rfl, BB.out⟩

end Go.Proofs.YtijbiedblahmhaaDoor
