/- turned: a tree with other names. -/
import Derived.Test.YtenpldenhgpneaaDoorScTurn
import Derived.Test.YtenpldenhgpneaaDoorJoint5
import Derived.Test.YtenpldenhgpneaaDoorRowApp
import Derived.Deep.RegionHeld3
namespace Go.Proofs.YtenpldenhgpneaaDoor
set_option linter.unusedSimpArgs false
open Go.RowKit

theorem elStr : Elem 22 9 1 16 := elem_of (z0 := .string ⟨#[]⟩) (by kernel_rfl) (by kernel_rfl) rfl
theorem elNod : Elem 23 25 7 96 := elem_of (z0 := .agg #[.int .i64 0, .int .i64 0, .int .i64 0, .string ⟨#[]⟩, .slice none 0 0, .slice none 0 0, .int .i64 0]) (by kernel_rfl) (by kernel_rfl) rfl
def TurnAt (t : Nd) : Prop := ∀ (B : Nat) (nv kv : Value) (w : World), Hid (NdIn B w t nv kv) → B ≤ w.heap.size → smallN t = true → countN t ≤ 1000000 →
  Calls Tryd.prog 17 #[.agg #[.int .i64 t.kind, .int .i64 t.op, .int .i64 t.num, .string t.str, nv, kv, .int .i64 t.pl]] w fun e w' =>
    ∃ nv' kv', e = .returned (.agg #[.int .i64 (turnN t).kind, .int .i64 (turnN t).op, .int .i64 (turnN t).num, .string (turnN t).str, nv', kv', .int .i64 (turnN t).pl]) ∧ NdS (fun b => w.heap.size ≤ b ∧ b < w'.heap.size) w' (turnN t) nv' kv' ∧ Below w.heap.size w w'
/-- while it turns: the tree that came, the answer's block, the tree out -/
structure TuA (w : World) (k o n : Int) (s s' : ByteArray) (ns : List ByteArray) (ks : List Nd) (p : Int) (na : Option Addr) (nc : Nat) (ka : Option Addr) (kc : Nat) (nv kv : Value) (wr : World) : Prop where
  box : Blk w.heap.size 25 #[.int .i64 k, .int .i64 o, .int .i64 n, .string s, .slice na ns.length nc, .slice ka ks.length kc, .int .i64 p] wr
  slot : Blk (w.heap.size + 1) 25 #[.int .i64 0, .int .i64 0, .int .i64 0, .string ⟨#[]⟩, .slice none 0 0, .slice none 0 0, .int .i64 0] wr
  out : Blk (w.heap.size + 1 + 1) 25 #[.int .i64 k, .int .i64 o, .int .i64 n, .string s', nv, kv, .int .i64 p] wr
  low : Below w.heap.size w wr
theorem tuA_new (w : World) (k o n : Int) (s s' : ByteArray) (ns : List ByteArray) (ks : List Nd) (p : Int) (na : Option Addr) (nc : Nat) (ka : Option Addr) (kc : Nat) (nv kv : Value) :
    TuA w k o n s s' ns ks p na nc ka kc nv kv (((w.alloc (.cells #[.int .i64 k, .int .i64 o, .int .i64 n, .string s, .slice na ns.length nc, .slice ka ks.length kc, .int .i64 p] 25)).alloc (.cells #[.int .i64 0, .int .i64 0, .int .i64 0, .string ⟨#[]⟩, .slice none 0 0, .slice none 0 0, .int .i64 0] 25)).alloc (.cells #[.int .i64 k, .int .i64 o, .int .i64 n, .string s', nv, kv, .int .i64 p] 25)) := by
  have b1 := blk_new w 25 #[.int .i64 k, .int .i64 o, .int .i64 n, .string s, .slice na ns.length nc, .slice ka ks.length kc, .int .i64 p]
  have b2 := blk_new (w.alloc (.cells #[.int .i64 k, .int .i64 o, .int .i64 n, .string s, .slice na ns.length nc, .slice ka ks.length kc, .int .i64 p] 25)) 25 #[.int .i64 0, .int .i64 0, .int .i64 0, .string ⟨#[]⟩, .slice none 0 0, .slice none 0 0, .int .i64 0]
  have b3 := blk_new ((w.alloc (.cells #[.int .i64 k, .int .i64 o, .int .i64 n, .string s, .slice na ns.length nc, .slice ka ks.length kc, .int .i64 p] 25)).alloc (.cells #[.int .i64 0, .int .i64 0, .int .i64 0, .string ⟨#[]⟩, .slice none 0 0, .slice none 0 0, .int .i64 0] 25)) 25 #[.int .i64 k, .int .i64 o, .int .i64 n, .string s', nv, kv, .int .i64 p]
  simp only [World.size_alloc] at b2 b3
  have A2 := (Below.refl (w.alloc (.cells #[.int .i64 k, .int .i64 o, .int .i64 n, .string s, .slice na ns.length nc, .slice ka ks.length kc, .int .i64 p] 25)).heap.size _).alloc (Nat.le_refl _) (.cells #[.int .i64 0, .int .i64 0, .int .i64 0, .string ⟨#[]⟩, .slice none 0 0, .slice none 0 0, .int .i64 0] 25)
  have A3 := (Below.refl ((w.alloc (.cells #[.int .i64 k, .int .i64 o, .int .i64 n, .string s, .slice na ns.length nc, .slice ka ks.length kc, .int .i64 p] 25)).alloc (.cells #[.int .i64 0, .int .i64 0, .int .i64 0, .string ⟨#[]⟩, .slice none 0 0, .slice none 0 0, .int .i64 0] 25)).heap.size _).alloc (Nat.le_refl _) (.cells #[.int .i64 k, .int .i64 o, .int .i64 n, .string s', nv, kv, .int .i64 p] 25)
  exact ⟨blk_on (blk_on b1 A2) A3, blk_on b2 A3, b3, (((Below.refl w.heap.size w).alloc (Nat.le_refl _) _).alloc (by simp) _).alloc (by simp; omega) _⟩
theorem TuA.on {w : World} {k o n : Int} {s s' : ByteArray} {ns : List ByteArray} {ks : List Nd} {p : Int} {na : Option Addr} {nc : Nat} {ka : Option Addr} {kc : Nat} {nv kv : Value} {a c : World} (h : TuA w k o n s s' ns ks p na nc ka kc nv kv a) (q : Below a.heap.size a c) : TuA w k o n s s' ns ks p na nc ka kc nv kv c :=
  ⟨blk_on h.box q, blk_on h.slot q, blk_on h.out q, below_in h.low (Nat.le_refl _) q⟩
/-- blocks behind those three are written, then the names' or the kids' cell -/
theorem TuA.put {w : World} {k o n : Int} {s s' : ByteArray} {ns : List ByteArray} {ks : List Nd} {p : Int} {na : Option Addr} {nc : Nat} {ka : Option Addr} {kc : Nat} {nv kv : Value} {a c : World} {T : Nat → Prop} (h : TuA w k o n s s' ns ks p na nc ka kc nv kv a) (q : Keep T a c) (hT : ∀ b, T b → w.heap.size + 1 + 1 < b) : TuA w k o n s s' ns ks p na nc ka kc nv kv c :=
  ⟨blk_keep h.box q (fun e => by have := hT _ e; omega), blk_keep h.slot q (fun e => by have := hT _ e; omega), blk_keep h.out q (fun e => by have := hT _ e; omega), h.low.trans (q.below (by have := blk_lt h.box; omega) (fun b e => by have := hT _ e; omega))⟩
theorem TuA.names {w : World} {k o n : Int} {s s' : ByteArray} {ns : List ByteArray} {ks : List Nd} {p : Int} {na : Option Addr} {nc : Nat} {ka : Option Addr} {kc : Nat} {nv kv : Value} {a : World} (h : TuA w k o n s s' ns ks p na nc ka kc nv kv a) (nv' : Value) : TuA w k o n s s' ns ks p na nc ka kc nv' kv (a.setCell ⟨w.heap.size + 1 + 1, 4, none⟩ nv') :=
  have K := Keep.set (S := fun b => b = w.heap.size + 1 + 1) rfl a 4 nv'
  ⟨blk_keep h.box K (by omega), blk_keep h.slot K (by omega), by simpa using blk_set h.out 4 nv', h.low.trans (K.below (by have := blk_lt h.box; omega) (fun b e => by have : b = w.heap.size + 1 + 1 := e; omega))⟩
theorem TuA.kids {w : World} {k o n : Int} {s s' : ByteArray} {ns : List ByteArray} {ks : List Nd} {p : Int} {na : Option Addr} {nc : Nat} {ka : Option Addr} {kc : Nat} {nv kv : Value} {a : World} (h : TuA w k o n s s' ns ks p na nc ka kc nv kv a) (kv' : Value) : TuA w k o n s s' ns ks p na nc ka kc nv kv' (a.setCell ⟨w.heap.size + 1 + 1, 5, none⟩ kv') :=
  have K := Keep.set (S := fun b => b = w.heap.size + 1 + 1) rfl a 5 kv'
  ⟨blk_keep h.box K (by omega), blk_keep h.slot K (by omega), by simpa using blk_set h.out 5 kv', h.low.trans (K.below (by have := blk_lt h.box; omega) (fun b e => by have : b = w.heap.size + 1 + 1 := e; omega))⟩

theorem ndS_shapes {ok : Nat → Prop} {w : World} {t : Nd} {nv kv : Value} (h : NdS ok w t nv kv) : ∃ a1 c1, nv = .slice a1 t.names.length c1 ∧ ∃ a2 c2, kv = .slice a2 t.kids.length c2 := by
  obtain ⟨k, o, n, s, ns, ks, p⟩ := t
  obtain ⟨h1, h2⟩ := ndS_mk.1 h
  obtain ⟨a1, c1, e1⟩ := strsS_shape h1
  obtain ⟨a2, c2, e2⟩ := kidsS_shape h2
  exact ⟨a1, c1, e1, a2, c2, e2⟩
/-- one node more, of one's own -/
theorem outS_more {ok : Nat → Prop} {w w' : World} {v : Value} {ks : List Nd} {cs : List Value} {y : Nd} {nv kv : Value} {g cap : Nat} (hr : RowS ok w ks cs) (hnk : ∀ g, v.ownBlock = some g → ¬ ok g) (hup : ∀ b, ok b → b < w.heap.size) (hY : NdS ok w y nv kv)
    (hown : w'.ownsRow 0 25 7 (.slice (some ⟨g, 0, none⟩) (ks.length + 1) cap) (ks.length + 1) (cs ++ ndl y nv kv)) (hgrow : w.grownBy w' v.ownBlock) (hat : v.ownBlock = some g ∨ w.heap.size ≤ g) : OutS ok w' (.slice (some ⟨g, 0, none⟩) (ks.length + 1) cap) (ks ++ [y]) := by
  have keep : ∀ k, ok k → ok k ∧ w'.heap[k]? = w.heap[k]? := fun k hk => ⟨hk, hgrow.block k (hup k hk) (fun e => hnk k e.symm hk)⟩
  refine ⟨_, by rw [List.length_append]; exact hown, rowS_snoc (ndS_keep keep _ _ _ hY) (rowS_keep keep hr), fun k hk => ?_⟩
  simp [Value.ownBlock] at hk
  subst hk
  rcases hat with h1 | h1
  · exact hnk _ h1
  · exact fun h2 => by have := hup _ h2; omega
theorem strsS_of {ok : Nat → Prop} {w : World} {v : Value} {ns : List ByteArray} (h : w.ownsRow 0 9 1 v ns.length (ns.map Value.string)) (hg : ∀ g, v.ownBlock = some g → ok g) : StrsS ok v ns w := by
  rcases h.2 with ⟨h1, h2⟩ | ⟨g, cap, cur, h1, h2, h3, h4, h5, h6, h7⟩
  · have : ns = [] := List.length_eq_zero_iff.1 h2
    subst this
    exact .inl ⟨none, 0, h1, rfl⟩
  · refine .inr ⟨g, 0, cap, h1, hg g (by rw [h1]; rfl), fun i hi => ?_, h4⟩
    rw [Nat.zero_add, blk_cell (show Blk g 9 cur w from h3)]
    have e := congrArg (fun l => l[i]?) h7
    simp only [List.getElem?_take, Array.getElem?_toList, List.getElem?_map] at e
    rw [if_pos (by omega)] at e
    rw [e]
    simp [hi]
theorem ret_nd1 {fn : Func} {t : Tmp} (h : fn.results = #[.cell t 25]) {tmps : Array Value} {g : Nat} {w : World} {v0 v1 v2 v3 v4 v5 v6 : Value} (ht : tmps.getD t undef = .pointer (some ⟨g, 0, none⟩)) (hb : Blk g 25 #[v0, v1, v2, v3, v4, v5, v6] w) :
    (results fn tmps).run Tryd.prog w = .ok (.agg #[v0, v1, v2, v3, v4, v5, v6]) w := by
  rw [Array.getD_eq_getD_getElem?] at ht
  have c0 := blk_cell hb 0
  have c1 := blk_cell hb 1
  have c2 := blk_cell hb 2
  have c3 := blk_cell hb 3
  have c4 := blk_cell hb 4
  have c5 := blk_cell hb 5
  have c6 := blk_cell hb 6
  simp at c0 c1 c2 c3 c4 c5 c6
  simp [results, h, ht, go_sem, asAddr, c0, c1, c2, c3, c4, c5, c6]
theorem turnL_snoc : ∀ (l : List Nd) (x : Nd), turnL (l ++ [x]) = turnL l ++ [turnN x]
  | [], x => by rw [List.nil_append, turnL, turnL, turnL]; rfl
  | y :: r, x => by rw [List.cons_append, turnL, turnL, turnL_snoc r x]; rfl
theorem turnL_len : ∀ (l : List Nd), (turnL l).length = l.length
  | [] => by rw [turnL]
  | y :: r => by rw [turnL, List.length_cons, List.length_cons, turnL_len r]

set_option maxHeartbeats 8000000 in
theorem turned_of (k o n : Int) (s : ByteArray) (ns : List ByteArray) (ks : List Nd) (p : Int) (ih : ∀ x ∈ ks, TurnAt x) : TurnAt (.mk k o n s ns ks p) := by
  intro B nv kv w hN hB hsm hc
  obtain ⟨hs1, hns, hnz, hks⟩ := small_mk hsm
  have hck : countL ks ≤ 1000000 := by rw [countN] at hc; omega
  have hlen := countL_len ks
  obtain ⟨h1, h2⟩ := ndIn_mk.1 hN.out
  obtain ⟨na, nc, rfl, _⟩ := strsIn_cases h1
  obtain ⟨ka, kc, rfl, _⟩ := kidsIn_cases h2
  have HS := hid h1
  have HK := hid h2
  have HIH := hid ih
  have HNZ := hid hnz
  have HKS := hid hks
  have HC := hid hck
  clear h1 h2 ih hnz hks hsm hc hN
  obtain ⟨s', hs'⟩ : ∃ s', (if isNm k then qB s else s) = s' := ⟨_, rfl⟩
  obtain ⟨ns', hns'⟩ : ∃ ns', (if k = 8 then ns.map qB else ns) = ns' := ⟨_, rfl⟩
  have HT := hid (show turnN (.mk k o n s ns ks p) = .mk k o n s' ns' (turnL ks) p by rw [turnN, hs', hns'])
  rw [HT.out]
  simp only [Nd.kind, Nd.op, Nd.num, Nd.str, Nd.pl, Nd.names]
  have hsz : ¬ (9223372036854775807 < 1 + s.size) := by omega
  have hnl : ns.length ≤ 60 := hns
  clear hns
  have HNS := hid hns'
  clear hns'
  have ways : ((k == 5) = true ∧ s' = (⟨#[113]⟩ : ByteArray) ++ s) ∨ (((k == 5) = false ∧ (k == 21) = true) ∧ s' = (⟨#[113]⟩ : ByteArray) ++ s) ∨ (((k == 5) = false ∧ (k == 21) = false ∧ (k == 22) = true) ∧ s' = (⟨#[113]⟩ : ByteArray) ++ s) ∨ (((k == 5) = false ∧ (k == 21) = false ∧ (k == 22) = false) ∧ s' = s) := by
    rw [← hs']
    unfold isNm
    cases h5 : (k == 5) <;> cases h21 : (k == 21) <;> cases h22 : (k == 22) <;> simp [qB]
  clear hs'
  have start : ∀ s0 : ByteArray, s' = s0 → TuA w k o n s s' ns ks p na nc ka kc (.slice none 0 0) (.slice ka ks.length kc) (((w.alloc (.cells #[.int .i64 k, .int .i64 o, .int .i64 n, .string s, .slice na ns.length nc, .slice ka ks.length kc, .int .i64 p] 25)).alloc (.cells #[.int .i64 0, .int .i64 0, .int .i64 0, .string ⟨#[]⟩, .slice none 0 0, .slice none 0 0, .int .i64 0] 25)).alloc (.cells #[.int .i64 k, .int .i64 o, .int .i64 n, .string s0, .slice none 0 0, .slice ka ks.length kc, .int .i64 p] 25)) := fun s0 e => by
    subst e
    exact tuA_new w k o n s s' ns ks p na nc ka kc _ _
  have HST := hid start
  clear start
  rcases ways with ⟨d5, es⟩ | ⟨⟨d5, d21⟩, es⟩ | ⟨⟨d5, d21, d22⟩, es⟩ | ⟨⟨d5, d21, d22⟩, es⟩
  all_goals
    have ST := hid (HST.out _ es)
    clear HST
    go_enter Tryd.func17, Tryd.ntmps17
    go_wp2_with fail
    clear es
    go_loopw [4] (fun i wr => ∃ (j : Nat) (nv : Value), j ≤ ns.length ∧ i = .int .i64 j ∧ Hid (TuA w k o n s s' ns ks p na nc ka kc nv (.slice ka ks.length kc) wr) ∧ Hid (wr.ownsRow 0 9 1 nv j ((ns'.take j).map Value.string)) ∧ Hid (∀ g, nv.ownBlock = some g → w.heap.size + 1 + 1 < g)) (fun i _ => ns.length - (intOf i).toNat)
    case atStart => exact ⟨0, .slice none 0 0, by omega, rfl, ST, hid ⟨rfl, .inl ⟨rfl, rfl⟩⟩, hid (fun g hg => by simp [Value.ownBlock] at hg)⟩
    case round =>
      obtain ⟨j, nv, hj, rfl, hT, hR, hG⟩ := hrel
      by_cases hjl : j < ns.length
      · obtain ⟨x, hx⟩ : ∃ e, ns[j]? = some e := ⟨ns[j], List.getElem?_eq_getElem hjl⟩
        obtain ⟨b, off, rfl, hb, cw⟩ := strs_cellAt HS.out hx
        have hbw : b < w.heap.size := by omega
        have hxz := HNZ.out x (List.mem_of_getElem? hx)
        obtain ⟨va, vc, rfl⟩ := row_shape hR.out
        have cx : wr.cell? ⟨b, off + j, none⟩ = some (.string x) := (hT.out.low.cell (p := ⟨b, off + j, none⟩) hbw).trans cw
        have c0 : wr.cell? ⟨w.heap.size, 0, none⟩ = some (.int .i64 k) := by rw [blk_cell hT.out.box]; rfl
        have c4 : wr.cell? ⟨w.heap.size, 4, none⟩ = some (.slice (some ⟨b, off, none⟩) ns.length nc) := by rw [blk_cell hT.out.box]; rfl
        have o4 : wr.cell? ⟨w.heap.size + 1 + 1, 4, none⟩ = some (.slice va j vc) := by rw [blk_cell hT.out.out]; rfl
        have hz : w.heap.size + 1 + 1 < wr.heap.size := blk_lt hT.out.out
        have hxn : ¬ (9223372036854775807 < 1 + x.size) := by omega
        have hzw : w.heap.size < wr.heap.size := by omega
        have hbr : b < wr.heap.size := by omega
        cases h8 : (k == 8)
        · have HXJ := hid (show ns'[j]? = some x by rw [← HNS.out, if_neg (by simpa using h8)]; exact hx)
          clear hx
          go_wp2_with fail
          refine wp_region_held_drew (S := fun a => a.cell? ⟨w.heap.size, 4, none⟩ = some (.slice (some ⟨b, off, none⟩) ns.length nc) ∧ a.cell? ⟨b, off + j, none⟩ = some (.string x)) (by kernel_rfl) ⟨c4, cx⟩ (fun hHeld => ?_)
          refine wpAnyH_take (i := 0) (v := ?_) rfl (by kernel_rfl) (by kernel_rfl) (by kernel_rfl) (fun _ _ _ h => h) (Or.inl ⟨by rfl, ?_⟩) (by assumption) ?_
          rotate_left 1
          · (intro w hSw; go_simp <;> (try with_reducible rfl))
          simp only [Act.put, List.setIfInBounds_toArray, List.set_cons_zero, List.set_cons_succ, List.getElem_toArray, List.getElem_cons_succ, List.getElem_cons_zero]
          refine wpAnyH_take (i := 2) (v := ?_) rfl (by kernel_rfl) (by kernel_rfl) (by kernel_rfl) (fun _ _ _ h => h) (Or.inl ⟨by rfl, ?_⟩) (by assumption) ?_
          rotate_left 1
          · (intro w hSw; go_simp <;> (try with_reducible rfl))
          simp only [Act.put, List.setIfInBounds_toArray, List.set_cons_zero, List.set_cons_succ, List.getElem_toArray, List.getElem_cons_succ, List.getElem_cons_zero]
          refine wpAnyH_take (i := 3) (v := ?_) rfl (by kernel_rfl) (by kernel_rfl) (by kernel_rfl) (fun _ _ _ h => h) (Or.inl ⟨by rfl, ?_⟩) (by assumption) ?_
          rotate_left 1
          · (intro w hSw; go_simp <;> (try with_reducible rfl))
          simp only [Act.put, List.setIfInBounds_toArray, List.set_cons_zero, List.set_cons_succ, List.getElem_toArray, List.getElem_cons_succ, List.getElem_cons_zero]
          refine wpAnyH_take (i := 4) (v := ?_) rfl (by kernel_rfl) (by kernel_rfl) (by kernel_rfl) (fun _ _ _ h => h) (Or.inl ⟨by rfl, ?_⟩) (by assumption) ?_
          rotate_left 1
          · (intro w hSw; go_simp <;> (try with_reducible rfl))
          simp only [Act.put, List.setIfInBounds_toArray, List.set_cons_zero, List.set_cons_succ, List.getElem_toArray, List.getElem_cons_succ, List.getElem_cons_zero]
          refine wpAnyH_take (i := 5) (v := ?_) rfl (by kernel_rfl) (by kernel_rfl) (by kernel_rfl) (fun _ _ _ h => h) (Or.inl ⟨by rfl, ?_⟩) (by assumption) ?_
          rotate_left 1
          · (intro w hSw; go_simp <;> (try with_reducible rfl))
          simp only [Act.put, List.setIfInBounds_toArray, List.set_cons_zero, List.set_cons_succ, List.getElem_toArray, List.getElem_cons_succ, List.getElem_cons_zero]
          refine wpAnyH_take (i := 6) (v := ?_) rfl (by kernel_rfl) (by kernel_rfl) (by kernel_rfl) (fun _ _ _ h => h) (Or.inl ⟨by rfl, ?_⟩) (by assumption) ?_
          rotate_left 1
          · (intro w hSw; go_simp <;> (try with_reducible rfl))
          simp only [Act.put, List.setIfInBounds_toArray, List.set_cons_zero, List.set_cons_succ, List.getElem_toArray, List.getElem_cons_succ, List.getElem_cons_zero]
          refine wpAnyH_ready (rs := [1, 7]) (by kernel_rfl) (by simp) ?_
          refine AllReadyH.cons rfl (fun K hK => ?_) (AllReadyH.cons rfl (fun K hK => ?_) AllReadyH.nil)
          go_simp
          refine hK.out _ _ hHeld (fun _ => ?_)
          clear hK K
          refine wpAnyH_ready (rs := [7]) (by kernel_rfl) (by simp) ?_
          refine AllReadyH.cons rfl (fun K hK => ?_) AllReadyH.nil
          go_simp
          refine hK.out _ _ ⟨by go_simp, by go_simp⟩ (fun _ => ?_)
          clear hK K
          rotate_left 1
          go_simp
          refine hK.out _ _ ⟨by go_simp, by go_simp⟩ (fun _ => ?_)
          clear hK K
          refine wpAnyH_ready (rs := [1]) (by kernel_rfl) (by simp) ?_
          refine AllReadyH.cons rfl (fun K hK => ?_) AllReadyH.nil
          go_simp
          refine hK.out _ _ ⟨by go_simp, by go_simp⟩ (fun _ => ?_)
          clear hK K
          rotate_left 1
          all_goals
            refine wpAnyH_ready (rs := [8]) (by kernel_rfl) (by simp) ?_
            refine AllReadyH.cons rfl (fun K hK => ?_) AllReadyH.nil
            refine row_app_step elStr (by decide) (by decide) rfl _ _ rfl j ((ns'.take j).map Value.string) [.string x] rfl (by intro u hu; simp at hu; subst hu; rfl) (.slice va j vc) (by rfl) hR.out wr.heap.size (by rfl) rfl (by omega) (.inr (.inr rfl)) ?_
            intro g cp w3 hown hgrow hat
            have T3 := hT.out.put (Keep.grown (S := fun b => (Value.slice va j vc).ownBlock = some b) hgrow (fun k hk => hk)) (fun b hb => hG.out b hb)
            have hg3 : w.heap.size + 1 + 1 < g := by
              rcases hat with h | h
              · exact hG.out g h
              · omega
            have u4 : w3.cell? ⟨w.heap.size, 4, none⟩ = some (.slice (some ⟨b, off, none⟩) ns.length nc) := by rw [blk_cell T3.box]; rfl
            have ux : w3.cell? ⟨b, off + j, none⟩ = some (.string x) := (T3.low.cell (p := ⟨b, off + j, none⟩) hbw).trans cw
            have uo : w3.cell? ⟨w.heap.size + 1 + 1, 4, none⟩ = some (.slice va j vc) := by rw [blk_cell T3.out]; rfl
            have uf : w3.frozen? ⟨w.heap.size + 1 + 1, 4, none⟩ = false := blk_free T3.out 4
            have TN := hid (T3.names (.slice (some ⟨g, 0, none⟩) (j + 1) cp))
            have RN := hid (show (w3.setCell ⟨w.heap.size + 1 + 1, 4, none⟩ (.slice (some ⟨g, 0, none⟩) (j + 1) cp)).ownsRow 0 9 1 (.slice (some ⟨g, 0, none⟩) (j + 1) cp) (j + 1) ((ns'.take (j + 1)).map Value.string) from by
              rw [List.take_add_one, HXJ.out, List.map_append]
              exact row_keep hown (fun g' hg' => by
                simp [Value.ownBlock] at hg'
                subst hg'
                obtain ⟨cur, hc⟩ := row_lt hown (g := g) rfl
                exact (Keep.set (S := fun b => b = w.heap.size + 1 + 1) rfl w3 4 _).block g (blk_lt hc) (by omega)))
            refine hK.out _ _ ⟨u4, ux⟩ (fun _ => ?_)
            clear hK K hown hgrow hat T3
            simp only [Act.put, List.setIfInBounds_toArray, List.set_cons_zero, List.set_cons_succ, List.getElem_toArray, List.getElem_cons_succ, List.getElem_cons_zero]
            refine wpAnyH_take (i := 9) (v := ?_) rfl (by kernel_rfl) (by kernel_rfl) (by kernel_rfl) (fun _ _ _ h => h) (Or.inl ⟨by rfl, ?_⟩) (by assumption) ?_
            rotate_left 1
            · (intro w hSw; go_simp <;> (try with_reducible rfl))
            simp only [Act.put, List.setIfInBounds_toArray, List.set_cons_zero, List.set_cons_succ, List.getElem_toArray, List.getElem_cons_succ, List.getElem_cons_zero]
            refine wpAnyH_ready (rs := [10]) (by kernel_rfl) (by simp) ?_
            refine AllReadyH.cons rfl (fun K hK => ?_) AllReadyH.nil
            go_simp
            have hne : b ≠ w.heap.size + 1 + 1 := by omega
            refine hK.out _ _ ⟨by go_simp, by go_simp⟩ (fun _ => ?_)
            clear hK K hHeld
            refine wpAnyH_done (by kernel_rfl) ?_ _
            go_wp2_with fail
            exact ⟨⟨j + 1, _, by omega, by simp, TN, RN, hid (fun g' hg' => by simp [Value.ownBlock] at hg'; omega)⟩, by simp [intOf]; omega⟩
        · have HXJ := hid (show ns'[j]? = some ((⟨#[113]⟩ : ByteArray) ++ x) by rw [← HNS.out, if_pos (by simpa using h8), List.getElem?_map, hx]; rfl)
          clear hx
          go_wp2_with fail
          refine wp_region_held_drew (S := fun a => a.cell? ⟨w.heap.size, 4, none⟩ = some (.slice (some ⟨b, off, none⟩) ns.length nc) ∧ a.cell? ⟨b, off + j, none⟩ = some (.string x)) (by kernel_rfl) ⟨c4, cx⟩ (fun hHeld => ?_)
          refine wpAnyH_take (i := 0) (v := ?_) rfl (by kernel_rfl) (by kernel_rfl) (by kernel_rfl) (fun _ _ _ h => h) (Or.inl ⟨by rfl, ?_⟩) (by assumption) ?_
          rotate_left 1
          · (intro w hSw; go_simp <;> (try with_reducible rfl))
          simp only [Act.put, List.setIfInBounds_toArray, List.set_cons_zero, List.set_cons_succ, List.getElem_toArray, List.getElem_cons_succ, List.getElem_cons_zero]
          refine wpAnyH_take (i := 2) (v := ?_) rfl (by kernel_rfl) (by kernel_rfl) (by kernel_rfl) (fun _ _ _ h => h) (Or.inl ⟨by rfl, ?_⟩) (by assumption) ?_
          rotate_left 1
          · (intro w hSw; go_simp <;> (try with_reducible rfl))
          simp only [Act.put, List.setIfInBounds_toArray, List.set_cons_zero, List.set_cons_succ, List.getElem_toArray, List.getElem_cons_succ, List.getElem_cons_zero]
          refine wpAnyH_take (i := 3) (v := ?_) rfl (by kernel_rfl) (by kernel_rfl) (by kernel_rfl) (fun _ _ _ h => h) (Or.inl ⟨by rfl, ?_⟩) (by assumption) ?_
          rotate_left 1
          · (intro w hSw; go_simp <;> (try with_reducible rfl))
          simp only [Act.put, List.setIfInBounds_toArray, List.set_cons_zero, List.set_cons_succ, List.getElem_toArray, List.getElem_cons_succ, List.getElem_cons_zero]
          refine wpAnyH_take (i := 4) (v := ?_) rfl (by kernel_rfl) (by kernel_rfl) (by kernel_rfl) (fun _ _ _ h => h) (Or.inl ⟨by rfl, ?_⟩) (by assumption) ?_
          rotate_left 1
          · (intro w hSw; go_simp <;> (try with_reducible rfl))
          simp only [Act.put, List.setIfInBounds_toArray, List.set_cons_zero, List.set_cons_succ, List.getElem_toArray, List.getElem_cons_succ, List.getElem_cons_zero]
          refine wpAnyH_take (i := 5) (v := ?_) rfl (by kernel_rfl) (by kernel_rfl) (by kernel_rfl) (fun _ _ _ h => h) (Or.inl ⟨by rfl, ?_⟩) (by assumption) ?_
          rotate_left 1
          · (intro w hSw; go_simp <;> (try with_reducible rfl))
          simp only [Act.put, List.setIfInBounds_toArray, List.set_cons_zero, List.set_cons_succ, List.getElem_toArray, List.getElem_cons_succ, List.getElem_cons_zero]
          refine wpAnyH_take (i := 6) (v := ?_) rfl (by kernel_rfl) (by kernel_rfl) (by kernel_rfl) (fun _ _ _ h => h) (Or.inl ⟨by rfl, ?_⟩) (by assumption) ?_
          rotate_left 1
          · (intro w hSw; go_simp <;> (try with_reducible rfl))
          simp only [Act.put, List.setIfInBounds_toArray, List.set_cons_zero, List.set_cons_succ, List.getElem_toArray, List.getElem_cons_succ, List.getElem_cons_zero]
          refine wpAnyH_take (i := 7) (v := ?_) rfl (by kernel_rfl) (by kernel_rfl) (by kernel_rfl) (fun _ _ _ h => h) (Or.inl ⟨by rfl, ?_⟩) (by assumption) ?_
          rotate_left 1
          · (intro w hSw; go_simp <;> (try with_reducible rfl))
          simp only [Act.put, List.setIfInBounds_toArray, List.set_cons_zero, List.set_cons_succ, List.getElem_toArray, List.getElem_cons_succ, List.getElem_cons_zero]
          refine wpAnyH_ready (rs := [1, 8]) (by kernel_rfl) (by simp) ?_
          refine AllReadyH.cons rfl (fun K hK => ?_) (AllReadyH.cons rfl (fun K hK => ?_) AllReadyH.nil)
          go_simp
          refine hK.out _ _ hHeld (fun _ => ?_)
          clear hK K
          refine wpAnyH_ready (rs := [8]) (by kernel_rfl) (by simp) ?_
          refine AllReadyH.cons rfl (fun K hK => ?_) AllReadyH.nil
          go_simp
          refine hK.out _ _ ⟨by go_simp, by go_simp⟩ (fun _ => ?_)
          clear hK K
          rotate_left 1
          go_simp
          refine hK.out _ _ ⟨by go_simp, by go_simp⟩ (fun _ => ?_)
          clear hK K
          refine wpAnyH_ready (rs := [1]) (by kernel_rfl) (by simp) ?_
          refine AllReadyH.cons rfl (fun K hK => ?_) AllReadyH.nil
          go_simp
          refine hK.out _ _ ⟨by go_simp, by go_simp⟩ (fun _ => ?_)
          clear hK K
          rotate_left 1
          all_goals
            refine wpAnyH_ready (rs := [9]) (by kernel_rfl) (by simp) ?_
            refine AllReadyH.cons rfl (fun K hK => ?_) AllReadyH.nil
            refine row_app_step elStr (by decide) (by decide) rfl _ _ rfl j ((ns'.take j).map Value.string) [.string ((⟨#[113]⟩ : ByteArray) ++ x)] rfl (by intro u hu; simp at hu; subst hu; rfl) (.slice va j vc) (by rfl) hR.out wr.heap.size (by rfl) rfl (by omega) (.inr (.inr rfl)) ?_
            intro g cp w3 hown hgrow hat
            have T3 := hT.out.put (Keep.grown (S := fun b => (Value.slice va j vc).ownBlock = some b) hgrow (fun k hk => hk)) (fun b hb => hG.out b hb)
            have hg3 : w.heap.size + 1 + 1 < g := by
              rcases hat with h | h
              · exact hG.out g h
              · omega
            have u4 : w3.cell? ⟨w.heap.size, 4, none⟩ = some (.slice (some ⟨b, off, none⟩) ns.length nc) := by rw [blk_cell T3.box]; rfl
            have ux : w3.cell? ⟨b, off + j, none⟩ = some (.string x) := (T3.low.cell (p := ⟨b, off + j, none⟩) hbw).trans cw
            have uo : w3.cell? ⟨w.heap.size + 1 + 1, 4, none⟩ = some (.slice va j vc) := by rw [blk_cell T3.out]; rfl
            have uf : w3.frozen? ⟨w.heap.size + 1 + 1, 4, none⟩ = false := blk_free T3.out 4
            have TN := hid (T3.names (.slice (some ⟨g, 0, none⟩) (j + 1) cp))
            have RN := hid (show (w3.setCell ⟨w.heap.size + 1 + 1, 4, none⟩ (.slice (some ⟨g, 0, none⟩) (j + 1) cp)).ownsRow 0 9 1 (.slice (some ⟨g, 0, none⟩) (j + 1) cp) (j + 1) ((ns'.take (j + 1)).map Value.string) from by
              rw [List.take_add_one, HXJ.out, List.map_append]
              exact row_keep hown (fun g' hg' => by
                simp [Value.ownBlock] at hg'
                subst hg'
                obtain ⟨cur, hc⟩ := row_lt hown (g := g) rfl
                exact (Keep.set (S := fun b => b = w.heap.size + 1 + 1) rfl w3 4 _).block g (blk_lt hc) (by omega)))
            refine hK.out _ _ ⟨u4, ux⟩ (fun _ => ?_)
            clear hK K hown hgrow hat T3
            simp only [Act.put, List.setIfInBounds_toArray, List.set_cons_zero, List.set_cons_succ, List.getElem_toArray, List.getElem_cons_succ, List.getElem_cons_zero]
            refine wpAnyH_take (i := 10) (v := ?_) rfl (by kernel_rfl) (by kernel_rfl) (by kernel_rfl) (fun _ _ _ h => h) (Or.inl ⟨by rfl, ?_⟩) (by assumption) ?_
            rotate_left 1
            · (intro w hSw; go_simp <;> (try with_reducible rfl))
            simp only [Act.put, List.setIfInBounds_toArray, List.set_cons_zero, List.set_cons_succ, List.getElem_toArray, List.getElem_cons_succ, List.getElem_cons_zero]
            refine wpAnyH_ready (rs := [11]) (by kernel_rfl) (by simp) ?_
            refine AllReadyH.cons rfl (fun K hK => ?_) AllReadyH.nil
            go_simp
            have hne : b ≠ w.heap.size + 1 + 1 := by omega
            refine hK.out _ _ ⟨by go_simp, by go_simp⟩ (fun _ => ?_)
            clear hK K hHeld
            refine wpAnyH_done (by kernel_rfl) ?_ _
            go_wp2_with fail
            exact ⟨⟨j + 1, _, by omega, by simp, TN, RN, hid (fun g' hg' => by simp [Value.ownBlock] at hg'; omega)⟩, by simp [intOf]; omega⟩
      · have hje : j = ns.length := by omega
        subst hje
        have hnl' : ns'.length = ns.length := by rw [← HNS.out]; split <;> simp
        have RN := hid (show wr.ownsRow 0 9 1 nv ns'.length (ns'.map Value.string) by
          have := hR.out
          rw [show ns'.take ns.length = ns' from by rw [← hnl', List.take_length]] at this
          rw [hnl']; exact this)
        obtain ⟨va0, vc0, rfl⟩ := row_shape hR.out
        have T0 := hid (hT.out.kids (.slice none 0 0))
        have c4 : wr.cell? ⟨w.heap.size, 4, none⟩ = some (.slice na ns.length nc) := by rw [blk_cell hT.out.box]; rfl
        have o5 : wr.cell? ⟨w.heap.size + 1 + 1, 5, none⟩ = some (.slice ka ks.length kc) := by rw [blk_cell hT.out.out]; rfl
        have f5 : wr.frozen? ⟨w.heap.size + 1 + 1, 5, none⟩ = false := blk_free hT.out.out 5
        have R0 := hid (row_keep (c := wr.setCell ⟨w.heap.size + 1 + 1, 5, none⟩ (.slice none 0 0)) RN.out (fun g hg => by
          obtain ⟨cur, hc⟩ := row_lt RN.out hg
          exact (Keep.set (S := fun b => b = w.heap.size + 1 + 1) rfl wr 5 _).block g (blk_lt hc) (by have := hG.out g hg; omega)))
        have hnvb := hid hG.out
        clear RN hR hT hj hjl ST
        go_wp2_with fail
        generalize wr.setCell ⟨w.heap.size + 1 + 1, 5, none⟩ (.slice none 0 0) = wq at *
        generalize hnv : Value.slice va0 ns.length vc0 = nv at *
        go_loopw [5] (fun i wr => ∃ (j : Nat) (kv : Value) (ks' : List Nd) (okK : Nat → Prop), j ≤ ks.length ∧ i = .int .i64 j ∧ Hid (ks' = turnL (ks.take j)) ∧ Hid (TuA w k o n s s' ns ks p na nc ka kc nv kv wr) ∧ Hid (wr.ownsRow 0 9 1 nv ns'.length (ns'.map Value.string)) ∧ Hid (OutS okK wr kv ks') ∧
          Hid (∀ b, okK b → w.heap.size + 1 + 1 < b ∧ b < wr.heap.size ∧ nv.ownBlock ≠ some b) ∧ Hid (∀ g, kv.ownBlock = some g → w.heap.size + 1 + 1 < g ∧ nv.ownBlock ≠ some g)) (fun i _ => ks.length - (intOf i).toNat)
        case atStart => exact ⟨0, .slice none 0 0, [], fun _ => False, by omega, rfl, hid (by rw [List.take_zero, turnL]), T0, R0, hid (outS_nil _ _), hid (fun b h => h.elim), hid (fun g hg => by simp [Value.ownBlock] at hg)⟩
        case round =>
          obtain ⟨j, kv, ks', okK, hj, rfl, hE, hT, hR, hO, hok, hkv⟩ := hrel
          by_cases hjl : j < ks.length
          · obtain ⟨x, hx⟩ : ∃ e, ks[j]? = some e := ⟨ks[j], List.getElem?_eq_getElem hjl⟩
            obtain ⟨b, off, a1, c1, a2, c2, rfl, hb, hNA, hNI⟩ := kid_node HK.out hx
            have hbw : b < w.heap.size := by omega
            have hz : w.heap.size + 1 + 1 < wr.heap.size := blk_lt hT.out.out
            have hzw : w.heap.size < wr.heap.size := by omega
            have hbr : b < wr.heap.size := by omega
            have hmem := List.mem_of_getElem? hx
            have hcx : countN x ≤ 1000000 := Nat.le_trans (count_mem hmem) HC.out
            have HCX := hid (HIH.out x hmem B (.slice a1 x.names.length c1) (.slice a2 x.kids.length c2) wr.drew (hid (ndIn_on (hT.out.low.drew.mono hB) _ _ _ hNI)) (by show B ≤ wr.heap.size; omega) (HKS.out x hmem) hcx)
            obtain ⟨va, vc, rfl⟩ := outS_shape hO.out
            have hkl : ks'.length = j := by rw [hE.out, turnL_len, List.length_take]; omega
            have HKL := hid hkl
            have hkb : ks'.length ≤ 1000000 := by omega
            have HX := hid hx
            have c5 : wr.cell? ⟨w.heap.size, 5, none⟩ = some (.slice (some ⟨b, off, none⟩) ks.length kc) := by rw [blk_cell hT.out.box]; rfl
            have o5 : wr.cell? ⟨w.heap.size + 1 + 1, 5, none⟩ = some (.slice va ks'.length vc) := by rw [blk_cell hT.out.out]; rfl
            obtain ⟨n0, n1, n2, n3, n4, n5, n6⟩ := nodeAt_on hNA hbw hT.out.low
            have hH : wr.cell? ⟨w.heap.size, 5, none⟩ = some (.slice (some ⟨b, off, none⟩) ks.length kc) ∧ wr.cell? ⟨b, off + j * 7, none⟩ = some (.int .i64 x.kind) ∧ wr.cell? ⟨b, off + j * 7 + 1, none⟩ = some (.int .i64 x.op) ∧ wr.cell? ⟨b, off + j * 7 + 2, none⟩ = some (.int .i64 x.num) ∧ wr.cell? ⟨b, off + j * 7 + 3, none⟩ = some (.string x.str) ∧ wr.cell? ⟨b, off + j * 7 + 4, none⟩ = some (.slice a1 x.names.length c1) ∧ wr.cell? ⟨b, off + j * 7 + 5, none⟩ = some (.slice a2 x.kids.length c2) ∧ wr.cell? ⟨b, off + j * 7 + 6, none⟩ = some (.int .i64 x.pl) := ⟨c5, n0, n1, n2, n3, n4, n5, n6⟩
            have HNA := hid hNA
            clear hx hNA hNI hkl hmem
            go_wp2_with fail
            refine wp_region_held_drew (S := fun a => a.cell? ⟨w.heap.size, 5, none⟩ = some (.slice (some ⟨b, off, none⟩) ks.length kc) ∧ a.cell? ⟨b, off + j * 7, none⟩ = some (.int .i64 x.kind) ∧ a.cell? ⟨b, off + j * 7 + 1, none⟩ = some (.int .i64 x.op) ∧ a.cell? ⟨b, off + j * 7 + 2, none⟩ = some (.int .i64 x.num) ∧ a.cell? ⟨b, off + j * 7 + 3, none⟩ = some (.string x.str) ∧ a.cell? ⟨b, off + j * 7 + 4, none⟩ = some (.slice a1 x.names.length c1) ∧ a.cell? ⟨b, off + j * 7 + 5, none⟩ = some (.slice a2 x.kids.length c2) ∧ a.cell? ⟨b, off + j * 7 + 6, none⟩ = some (.int .i64 x.pl)) (by kernel_rfl) hH (fun hHeld => ?_)
            refine wpAnyH_take (i := 0) (v := ?_) rfl (by kernel_rfl) (by kernel_rfl) (by kernel_rfl) (fun _ _ _ h => h) (Or.inl ⟨by rfl, ?_⟩) (by assumption) ?_
            rotate_left 1
            · (intro w hSw; go_simp <;> (try with_reducible rfl))
            simp only [Act.put, List.setIfInBounds_toArray, List.set_cons_zero, List.set_cons_succ, List.getElem_toArray, List.getElem_cons_succ, List.getElem_cons_zero]
            refine wpAnyH_take (i := 2) (v := ?_) rfl (by kernel_rfl) (by kernel_rfl) (by kernel_rfl) (fun _ _ _ h => h) (Or.inl ⟨by rfl, ?_⟩) (by assumption) ?_
            rotate_left 1
            · (intro w hSw; go_simp <;> (try with_reducible rfl))
            simp only [Act.put, List.setIfInBounds_toArray, List.set_cons_zero, List.set_cons_succ, List.getElem_toArray, List.getElem_cons_succ, List.getElem_cons_zero]
            refine wpAnyH_take (i := 3) (v := ?_) rfl (by kernel_rfl) (by kernel_rfl) (by kernel_rfl) (fun _ _ _ h => h) (Or.inl ⟨by rfl, ?_⟩) (by assumption) ?_
            rotate_left 1
            · (intro w hSw; go_simp <;> (try with_reducible rfl))
            simp only [Act.put, List.setIfInBounds_toArray, List.set_cons_zero, List.set_cons_succ, List.getElem_toArray, List.getElem_cons_succ, List.getElem_cons_zero]
            refine wpAnyH_take (i := 4) (v := ?_) rfl (by kernel_rfl) (by kernel_rfl) (by kernel_rfl) (fun _ _ _ h => h) (Or.inl ⟨by rfl, ?_⟩) (by assumption) ?_
            rotate_left 1
            · (intro w hSw; go_simp <;> (try with_reducible rfl))
            simp only [Act.put, List.setIfInBounds_toArray, List.set_cons_zero, List.set_cons_succ, List.getElem_toArray, List.getElem_cons_succ, List.getElem_cons_zero]
            refine wpAnyH_take (i := 5) (v := ?_) rfl (by kernel_rfl) (by kernel_rfl) (by kernel_rfl) (fun _ _ _ h => h) (Or.inl ⟨by rfl, ?_⟩) (by assumption) ?_
            rotate_left 1
            · (intro w hSw; go_simp <;> (try with_reducible rfl))
            simp only [Act.put, List.setIfInBounds_toArray, List.set_cons_zero, List.set_cons_succ, List.getElem_toArray, List.getElem_cons_succ, List.getElem_cons_zero]
            refine wpAnyH_take (i := 6) (v := ?_) rfl (by kernel_rfl) (by kernel_rfl) (by kernel_rfl) (fun _ _ _ h => h) (Or.inl ⟨by rfl, ?_⟩) (by assumption) ?_
            rotate_left 1
            · (intro w hSw; go_simp <;> (try with_reducible rfl))
            simp only [Act.put, List.setIfInBounds_toArray, List.set_cons_zero, List.set_cons_succ, List.getElem_toArray, List.getElem_cons_succ, List.getElem_cons_zero]
            refine wpAnyH_ready (rs := [1, 7]) (by kernel_rfl) (by simp) ?_
            refine AllReadyH.cons rfl (fun K hK => ?_) (AllReadyH.cons rfl (fun K hK => ?_) AllReadyH.nil)
            go_simp
            refine hK.out _ _ hH (fun _ => ?_)
            clear hK K
            refine wpAnyH_ready (rs := [7]) (by kernel_rfl) (by simp) ?_
            refine AllReadyH.cons rfl (fun K hK => ?_) AllReadyH.nil
            go_simp
            refine HCX.out.mono ?_
            rintro e5 w5 ⟨nv5, kv5, rfl, hS5, b5⟩
            obtain ⟨y, hy⟩ : ∃ y, turnN x = y := ⟨_, rfl⟩
            rw [hy] at hS5 ⊢
            obtain ⟨m1, q1, rfl, m2, q2, rfl⟩ := ndS_shapes hS5
            have D5 := (Below.refl wr.heap.size wr).drew.trans b5
            have HS5 := hid hS5
            have HD5 := hid D5
            have HY := hid hy
            have t5 := hT.out.on D5
            have h5 : w5.cell? ⟨w.heap.size, 5, none⟩ = some (.slice (some ⟨b, off, none⟩) ks.length kc) ∧ w5.cell? ⟨b, off + j * 7, none⟩ = some (.int .i64 x.kind) ∧ w5.cell? ⟨b, off + j * 7 + 1, none⟩ = some (.int .i64 x.op) ∧ w5.cell? ⟨b, off + j * 7 + 2, none⟩ = some (.int .i64 x.num) ∧ w5.cell? ⟨b, off + j * 7 + 3, none⟩ = some (.string x.str) ∧ w5.cell? ⟨b, off + j * 7 + 4, none⟩ = some (.slice a1 x.names.length c1) ∧ w5.cell? ⟨b, off + j * 7 + 5, none⟩ = some (.slice a2 x.kids.length c2) ∧ w5.cell? ⟨b, off + j * 7 + 6, none⟩ = some (.int .i64 x.pl) :=
              ⟨by rw [blk_cell t5.box]; rfl, (D5.cell (p := ⟨b, off + j * 7, none⟩) hbr).trans n0, (D5.cell (p := ⟨b, off + j * 7 + 1, none⟩) hbr).trans n1, (D5.cell (p := ⟨b, off + j * 7 + 2, none⟩) hbr).trans n2, (D5.cell (p := ⟨b, off + j * 7 + 3, none⟩) hbr).trans n3, (D5.cell (p := ⟨b, off + j * 7 + 4, none⟩) hbr).trans n4, (D5.cell (p := ⟨b, off + j * 7 + 5, none⟩) hbr).trans n5, (D5.cell (p := ⟨b, off + j * 7 + 6, none⟩) hbr).trans n6⟩
            have H5 := hid h5
            have o5' : w5.cell? ⟨w.heap.size + 1 + 1, 5, none⟩ = some (.slice va ks'.length vc) := by rw [blk_cell t5.out]; rfl
            have T5 := hid t5
            have hz5 : w.heap.size + 1 + 1 < w5.heap.size := blk_lt t5.out
            have hzw5 : w.heap.size < w5.heap.size := by omega
            have hb5 : b < w5.heap.size := by omega
            go_simp
            refine hK.out _ _ h5 (fun _ => ?_)
            clear hK K hS5 b5 D5 t5 hy
            try simp only [Act.put, List.setIfInBounds_toArray, List.set_cons_zero, List.set_cons_succ, List.getElem_toArray, List.getElem_cons_succ, List.getElem_cons_zero]
            refine wpAnyH_ready (rs := [8]) (by kernel_rfl) (by simp) ?_
            refine AllReadyH.cons rfl (fun K hK => ?_) AllReadyH.nil
            go_simp
            refine hK.out _ _ (by refine ⟨?_, ?_, ?_, ?_, ?_, ?_, ?_, ?_⟩ <;> go_simp) (fun _ => ?_)
            clear hK K
            rotate_left 1
            go_simp
            refine HCX.out.mono ?_
            rintro e5 w5 ⟨nv5, kv5, rfl, hS5, b5⟩
            obtain ⟨y, hy⟩ : ∃ y, turnN x = y := ⟨_, rfl⟩
            rw [hy] at hS5 ⊢
            obtain ⟨m1, q1, rfl, m2, q2, rfl⟩ := ndS_shapes hS5
            have D5 := (Below.refl wr.heap.size wr).drew.trans b5
            have HS5 := hid hS5
            have HD5 := hid D5
            have HY := hid hy
            have t5 := hT.out.on D5
            have h5 : w5.cell? ⟨w.heap.size, 5, none⟩ = some (.slice (some ⟨b, off, none⟩) ks.length kc) ∧ w5.cell? ⟨b, off + j * 7, none⟩ = some (.int .i64 x.kind) ∧ w5.cell? ⟨b, off + j * 7 + 1, none⟩ = some (.int .i64 x.op) ∧ w5.cell? ⟨b, off + j * 7 + 2, none⟩ = some (.int .i64 x.num) ∧ w5.cell? ⟨b, off + j * 7 + 3, none⟩ = some (.string x.str) ∧ w5.cell? ⟨b, off + j * 7 + 4, none⟩ = some (.slice a1 x.names.length c1) ∧ w5.cell? ⟨b, off + j * 7 + 5, none⟩ = some (.slice a2 x.kids.length c2) ∧ w5.cell? ⟨b, off + j * 7 + 6, none⟩ = some (.int .i64 x.pl) :=
              ⟨by rw [blk_cell t5.box]; rfl, (D5.cell (p := ⟨b, off + j * 7, none⟩) hbr).trans n0, (D5.cell (p := ⟨b, off + j * 7 + 1, none⟩) hbr).trans n1, (D5.cell (p := ⟨b, off + j * 7 + 2, none⟩) hbr).trans n2, (D5.cell (p := ⟨b, off + j * 7 + 3, none⟩) hbr).trans n3, (D5.cell (p := ⟨b, off + j * 7 + 4, none⟩) hbr).trans n4, (D5.cell (p := ⟨b, off + j * 7 + 5, none⟩) hbr).trans n5, (D5.cell (p := ⟨b, off + j * 7 + 6, none⟩) hbr).trans n6⟩
            have H5 := hid h5
            have o5' : w5.cell? ⟨w.heap.size + 1 + 1, 5, none⟩ = some (.slice va ks'.length vc) := by rw [blk_cell t5.out]; rfl
            have T5 := hid t5
            have hz5 : w.heap.size + 1 + 1 < w5.heap.size := blk_lt t5.out
            have hzw5 : w.heap.size < w5.heap.size := by omega
            have hb5 : b < w5.heap.size := by omega
            go_simp
            refine hK.out _ _ h5 (fun _ => ?_)
            clear hK K hS5 b5 D5 t5 hy
            try simp only [Act.put, List.setIfInBounds_toArray, List.set_cons_zero, List.set_cons_succ, List.getElem_toArray, List.getElem_cons_succ, List.getElem_cons_zero]
            refine wpAnyH_ready (rs := [1, 8]) (by kernel_rfl) (by simp) ?_
            refine AllReadyH.cons rfl (fun K hK => ?_) (AllReadyH.cons rfl (fun K hK => ?_) AllReadyH.nil)
            go_simp
            refine hK.out _ _ H5.out (fun _ => ?_)
            clear hK K
            refine wpAnyH_ready (rs := [8]) (by kernel_rfl) (by simp) ?_
            refine AllReadyH.cons rfl (fun K hK => ?_) AllReadyH.nil
            go_simp
            refine hK.out _ _ (by refine ⟨?_, ?_, ?_, ?_, ?_, ?_, ?_, ?_⟩ <;> go_simp) (fun _ => ?_)
            clear hK K
            rotate_left 1
            go_simp
            refine hK.out _ _ (by refine ⟨?_, ?_, ?_, ?_, ?_, ?_, ?_, ?_⟩ <;> go_simp) (fun _ => ?_)
            clear hK K
            refine wpAnyH_ready (rs := [1]) (by kernel_rfl) (by simp) ?_
            refine AllReadyH.cons rfl (fun K hK => ?_) AllReadyH.nil
            go_simp
            refine hK.out _ _ (by refine ⟨?_, ?_, ?_, ?_, ?_, ?_, ?_, ?_⟩ <;> go_simp) (fun _ => ?_)
            clear hK K
            rotate_left 1
            all_goals
              obtain ⟨cs, hown0, hrow0, hnk0⟩ := hO.out
              refine wpAnyH_ready (rs := [9]) (by kernel_rfl) (by simp) ?_
              refine AllReadyH.cons rfl (fun K hK => ?_) AllReadyH.nil
              refine row_app_step elNod (by decide) (by decide) rfl _ _ rfl ks'.length cs (ndl y (.slice m1 y.names.length q1) (.slice m2 y.kids.length q2)) rfl (ndl_one y _ _ _ _ _ _) (.slice va ks'.length vc) (by rfl) (row_keep hown0 (fun g hg => HD5.out.block g (by obtain ⟨cur, hc⟩ := row_lt hown0 hg; exact blk_lt hc))) w5.heap.size (by rfl) rfl hkb (.inl rfl) ?_
              intro g cp w6 hown hgrow hat
              have kT : Keep (fun b => (Value.slice va ks'.length vc).ownBlock = some b) w5 w6 := Keep.grown hgrow (fun k hk => hk)
              have T6 := T5.out.put kT (fun b hb => (hkv.out b hb).1)
              have h6 : w6.cell? ⟨w.heap.size, 5, none⟩ = some (.slice (some ⟨b, off, none⟩) ks.length kc) ∧ w6.cell? ⟨b, off + j * 7, none⟩ = some (.int .i64 x.kind) ∧ w6.cell? ⟨b, off + j * 7 + 1, none⟩ = some (.int .i64 x.op) ∧ w6.cell? ⟨b, off + j * 7 + 2, none⟩ = some (.int .i64 x.num) ∧ w6.cell? ⟨b, off + j * 7 + 3, none⟩ = some (.string x.str) ∧ w6.cell? ⟨b, off + j * 7 + 4, none⟩ = some (.slice a1 x.names.length c1) ∧ w6.cell? ⟨b, off + j * 7 + 5, none⟩ = some (.slice a2 x.kids.length c2) ∧ w6.cell? ⟨b, off + j * 7 + 6, none⟩ = some (.int .i64 x.pl) := by
                obtain ⟨z0, z1, z2, z3, z4, z5, z6⟩ := nodeAt_on HNA.out hbw T6.low
                exact ⟨by rw [blk_cell T6.box]; rfl, z0, z1, z2, z3, z4, z5, z6⟩
              have u5 : w6.cell? ⟨w.heap.size + 1 + 1, 5, none⟩ = some (.slice va ks'.length vc) := by rw [blk_cell T6.out]; rfl
              have u6 : w6.frozen? ⟨w.heap.size + 1 + 1, 5, none⟩ = false := blk_free T6.out 5
              have hd5 := HD5.out.size
              have hd6 := kT.size
              have hg6 : w.heap.size + 1 + 1 < g := by
                rcases hat with h | h
                · exact (hkv.out g h).1
                · omega
              have hng : nv.ownBlock ≠ some g := by
                rcases hat with h | h
                · exact (hkv.out g h).2
                · intro e
                  obtain ⟨cur, hc⟩ := row_lt hR.out e
                  have := blk_lt hc
                  omega
              have K7 := Keep.set (S := fun b => b = w.heap.size + 1 + 1) rfl w6 5 (.slice (some ⟨g, 0, none⟩) (ks'.length + 1) cp)
              have T7 := hid (T6.kids (.slice (some ⟨g, 0, none⟩) (ks'.length + 1) cp))
              have O6 := outS_more (ok := fun b => okK b ∨ (wr.heap.size ≤ b ∧ b < w5.heap.size)) (rowS_keep (fun b hb => ⟨.inl hb, HD5.out.block b (hok.out b hb).2.1⟩) hrow0) (fun g hg hb => by
                rcases hb with hb | hb
                · exact hnk0 g hg hb
                · have := outS_lt hO.out hg
                  omega) (fun b hb => by
                rcases hb with hb | hb
                · have := (hok.out b hb).2.1; omega
                · exact hb.2) (ndS_mono (fun b hb => .inr hb) HS5.out) hown hgrow hat
              have O7 := hid (outS_keep (c := w6.setCell ⟨w.heap.size + 1 + 1, 5, none⟩ (.slice (some ⟨g, 0, none⟩) (ks'.length + 1) cp)) (ok' := fun b => okK b ∨ (wr.heap.size ≤ b ∧ b < w5.heap.size)) O6 (fun b hb => ⟨hb, K7.block b (by
                rcases hb with hb | hb
                · have := (hok.out b hb).2.1; omega
                · omega) (by
                rcases hb with hb | hb
                · have := (hok.out b hb).1; omega
                · omega)⟩) (fun g' hg' => ⟨K7.block g' (outS_lt O6 hg') (by simp [Value.ownBlock] at hg'; omega), fun hb => by obtain ⟨_, _, _, hq⟩ := O6; exact hq g' hg' hb⟩))
              have R7 := hid (show (w6.setCell ⟨w.heap.size + 1 + 1, 5, none⟩ (.slice (some ⟨g, 0, none⟩) (ks'.length + 1) cp)).ownsRow 0 9 1 nv ns'.length (ns'.map Value.string) from row_keep hR.out (fun g' hg' => by
                obtain ⟨cur, hc⟩ := row_lt hR.out hg'
                have q1 := blk_lt hc
                rw [K7.block g' (by omega) (by have := (hnvb.out g' hg'); omega), kT.block g' (by omega) (fun e => (hkv.out g' e).2 hg'), HD5.out.block g' q1]))
              have E7 := hid (show ks' ++ [y] = turnL (ks.take (j + 1)) by rw [List.take_add_one, HX.out, Option.toList_some, turnL_snoc, ← hE.out, HY.out])
              have Q7 := hid (show ∀ b, (okK b ∨ (wr.heap.size ≤ b ∧ b < w5.heap.size)) → w.heap.size + 1 + 1 < b ∧ b < (w6.setCell ⟨w.heap.size + 1 + 1, 5, none⟩ (.slice (some ⟨g, 0, none⟩) (ks'.length + 1) cp)).heap.size ∧ nv.ownBlock ≠ some b from fun b hb => by
                have q2 := K7.size
                rcases hb with hb | hb
                · have := hok.out b hb
                  exact ⟨this.1, by omega, this.2.2⟩
                · refine ⟨by omega, by omega, fun e => ?_⟩
                  obtain ⟨cur, hc⟩ := row_lt hR.out e
                  have := blk_lt hc
                  omega)
              have G7 := hid (show ∀ g', (Value.slice (some ⟨g, 0, none⟩) (ks'.length + 1) cp).ownBlock = some g' → w.heap.size + 1 + 1 < g' ∧ nv.ownBlock ≠ some g' from fun g' hg' => by
                simp [Value.ownBlock] at hg'
                subst hg'
                exact ⟨hg6, hng⟩)
              refine hK.out _ _ h6 (fun _ => ?_)
              clear hK K hown hgrow hat T6 kT O6 K7 hown0 hrow0 hnk0
              simp only [Act.put, List.setIfInBounds_toArray, List.set_cons_zero, List.set_cons_succ, List.getElem_toArray, List.getElem_cons_succ, List.getElem_cons_zero]
              refine wpAnyH_take (i := 10) (v := ?_) rfl (by kernel_rfl) (by kernel_rfl) (by kernel_rfl) (fun _ _ _ h => h) (Or.inl ⟨by rfl, ?_⟩) (by assumption) ?_
              rotate_left 1
              · (intro w hSw; go_simp <;> (try with_reducible rfl))
              simp only [Act.put, List.setIfInBounds_toArray, List.set_cons_zero, List.set_cons_succ, List.getElem_toArray, List.getElem_cons_succ, List.getElem_cons_zero]
              refine wpAnyH_ready (rs := [11]) (by kernel_rfl) (by simp) ?_
              refine AllReadyH.cons rfl (fun K hK => ?_) AllReadyH.nil
              go_simp
              have hne : b ≠ w.heap.size + 1 + 1 := by omega
              refine hK.out _ _ (by obtain ⟨z, z0, z1, z2, z3, z4, z5, z6⟩ := h6; refine ⟨?_, ?_, ?_, ?_, ?_, ?_, ?_, ?_⟩ <;> go_simp) (fun _ => ?_)
              clear hK K hHeld
              refine wpAnyH_done (by kernel_rfl) ?_ _
              go_wp2_with fail
              exact ⟨⟨j + 1, _, _, _, by omega, by simp, E7, T7, R7, O7, Q7, G7⟩, by simp [intOf]; omega⟩
          · have hje : j = ks.length := by omega
            subst hje
            have c5 : wr.cell? ⟨w.heap.size, 5, none⟩ = some (.slice ka ks.length kc) := by rw [blk_cell hT.out.box]; rfl
            obtain ⟨va, vc, rfl⟩ := outS_shape hO.out
            obtain ⟨y0, y1, y2, y3, y4, y5, y6⟩ := box_cells (show Box (w.heap.size + 1 + 1) k o n s' nv (.slice va ks'.length vc) p wr from hT.out.out)
            obtain ⟨z0, z1, z2, z3, z4, z5, z6⟩ := box_cells (show Box (w.heap.size + 1) 0 0 0 ⟨#[]⟩ (.slice none 0 0) (.slice none 0 0) 0 wr from hT.out.slot)
            have f0 : wr.frozen? ⟨w.heap.size + 1, 0, none⟩ = false := blk_free hT.out.slot 0
            have f1 : wr.frozen? ⟨w.heap.size + 1, 1, none⟩ = false := blk_free hT.out.slot 1
            have f2 : wr.frozen? ⟨w.heap.size + 1, 2, none⟩ = false := blk_free hT.out.slot 2
            have f3 : wr.frozen? ⟨w.heap.size + 1, 3, none⟩ = false := blk_free hT.out.slot 3
            have f4 : wr.frozen? ⟨w.heap.size + 1, 4, none⟩ = false := blk_free hT.out.slot 4
            have f5 : wr.frozen? ⟨w.heap.size + 1, 5, none⟩ = false := blk_free hT.out.slot 5
            have f6 : wr.frozen? ⟨w.heap.size + 1, 6, none⟩ = false := blk_free hT.out.slot 6
            subst hnv
            go_wp2_with fail
            have P := put7 hT.out.slot (.int .i64 k) (.int .i64 o) (.int .i64 n) (.string s') (.slice va0 ns.length vc0) (.slice va ks'.length vc) (.int .i64 p)
            refine bodyPost_ret (ret_nd1 rfl rfl P.1) rfl ?_
            have hzw := hT.out.low.size
            have hzs := blk_lt hT.out.out
            have hpz := P.2.size
            have hks : ks' = turnL ks := by rw [hE.out, List.take_length]
            refine ⟨_, _, rfl, ndS_mk.2 ⟨?_, ?_⟩, hT.out.low.trans (P.2.below (by omega) (fun b e => by have : b = w.heap.size + 1 := e; omega))⟩
            · refine strsS_of (row_keep hR.out (fun g hg => ?_)) (fun g hg => ?_)
              · obtain ⟨cur, hc⟩ := row_lt hR.out hg
                exact P.2.block g (blk_lt hc) (by have := hnvb.out g hg; omega)
              · obtain ⟨cur, hc⟩ := row_lt hR.out hg
                have := blk_lt hc
                have := hnvb.out g hg
                exact ⟨by omega, by omega⟩
            · rw [← hks]
              refine kidsS_keep (fun b hb => ?_) (outS_kids hO.out)
              rcases hb with hb | hb
              · have q := hok.out b hb
                exact ⟨⟨by omega, by omega⟩, P.2.block b q.2.1 (by omega)⟩
              · have q := hkv.out b hb
                have q2 := outS_lt hO.out hb
                exact ⟨⟨by omega, by omega⟩, P.2.block b q2 (by omega)⟩
theorem turned_calls (t : Nd) : TurnAt t := by
  refine Nd.ind (P := TurnAt) ?_ t
  intro k o n s ns ks p ih
  exact turned_of k o n s ns ks p ih

end Go.Proofs.YtenpldenhgpneaaDoor
