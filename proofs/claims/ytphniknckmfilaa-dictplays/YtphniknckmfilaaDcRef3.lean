/- The document's dict: Delete. -/
import Derived.Test.YtphniknckmfilaaDcRef2
namespace Go.Proofs.Ytphniknckmfilaa
set_option linter.unusedSimpArgs false
open Go.RowKit

theorem rset_calls {r : Nat} {nv vv : Value} {l : List Ent} (w : World) (h : RfAt r nv vv l w) (s : ByteArray) (x : Vl) (hf : l.length ≤ 1000000) :
    Calls Try.prog 20 #[.pointer (some ⟨r, 0, none⟩), .string s, vlV x] w fun e w' => e = .returned (.bool (!hasL l s)) ∧
      ∃ nv' vv', RfAt r nv' vv' (setL l s x) w' ∧ Keep (FtR r nv vv) w w' ∧ ∀ k, FtR r nv' vv' k → FtR r nv vv k ∨ w.heap.size ≤ k := by
  cases hat : atN l s with
  | some i =>
    rw [show hasL l s = true from by rw [← atN_has, hat]; rfl]
    refine (rset_has w h s x hat hf).mono ?_
    rintro e w' ⟨rfl, h1, h2⟩
    exact ⟨rfl, nv, vv, h1, h2, fun k hk => .inl hk⟩
  | none =>
    have hh : hasL l s = false := by rw [← atN_has, hat]; rfl
    rw [hh]
    refine (rset_new w h s x hat hf).mono ?_
    rintro e w' ⟨rfl, h1⟩
    exact ⟨rfl, by rw [setL_new x hh]; exact h1⟩
/-- values of one's own -/
def ValsOwn (lo : Nat) (v : Value) (l : List Ent) (w : World) : Prop := w.ownsRow 0 32 3 v l.length (valsC l) ∧ ∀ g, v.ownBlock = some g → lo ≤ g
theorem valsOwn_on {lo : Nat} {v : Value} {l : List Ent} {a c : World} (h : ValsOwn lo v l a) (k : Below a.heap.size a c) : ValsOwn lo v l c :=
  ⟨row_keep h.1 (fun g hg => k.block g (by obtain ⟨cur, hc⟩ := row_lt h.1 hg; exact blk_lt hc)), h.2⟩
theorem vals_app {ops : Array Oper} {rest : List Oper} {o : Oper} {a : Act} {Q : Exit → Act → World → Prop} {w : World} (hgd : o.guard = none) (s x : Operand)
    (ho : o.op = .call { callee := .builtin .append, args := #[s, x], argTypes := #[27, 27] })
    (lo : Nat) (l : List Ent) (t : Ent) (v : Value) (hs : a.eval s = v) (hown : ValsOwn lo v l w)
    (nb : Nat) (hx : a.eval x = .slice (some ⟨nb, 0, none⟩) 1 1) (hnb : nb = w.heap.size) (hlen : l.length ≤ 1000000) (hlo : lo ≤ w.heap.size)
    (h : ∀ g cap w', ValsOwn lo (.slice (some ⟨g, 0, none⟩) (l.length + 1) cap) (l ++ [t]) w' → w.grownBy w' v.ownBlock → wpList Try.prog ops Q rest (a.put o.dst (.slice (some ⟨g, 0, none⟩) (l.length + 1) cap)) w') :
    wpList Try.prog ops Q (o :: rest) a (w.alloc (.cells #[.int .i64 t.2.1, .int .i64 t.2.2.1, .string t.2.2.2] 32)) := by
  subst hnb
  obtain ⟨i0, hi, hz0, hz1, hz2⟩ := infoVl
  have A := (Below.refl w.heap.size w).alloc (Nat.le_refl _) (.cells #[.int .i64 t.2.1, .int .i64 t.2.2.1, .string t.2.2.2] 32)
  refine wpList_append_lies _ hgd s x 27 ho 0 32 i0 _ 3 32 underVl hi hz0 hz1 hz2 rfl (by decide) v l.length _ hs (valsOwn_on hown A).1 ⟨w.heap.size, 0, none⟩ 1 1 (valC t.2) hx rfl (World.news_of_block (heap_alloc_new w (.cells #[.int .i64 t.2.1, .int .i64 t.2.2.1, .string t.2.2.2] 32))) (valC_one _) (by decide) (by unfold maxLen; omega) (by omega) (Nat.zero_le _) (w.heap.size + 1) (by simp) ?_
  intro g cap w' hown' hgrow hat hlt
  refine h g cap w' ⟨?_, fun k hk => ?_⟩ ?_
  · rw [List.length_append, valsC_append]
    simpa [valsC] using hown'
  · simp [Value.ownBlock] at hk
    subst hk
    rcases hat with h1 | h1
    · exact hown.2 _ h1
    · omega
  · refine ⟨hgrow.os.trans A.os, hgrow.tape.trans A.tape, hgrow.output.trans A.output, Nat.le_trans A.size hgrow.size, fun k hk hne => ?_⟩
    rw [hgrow.block k (by simp; omega) hne, A.block k hk]

theorem drop_take {l : List Ent} {s : ByteArray} {j : Nat} {e : Ent} (h : l[j]? = some e) : dropL (l.take (j + 1)) s = dropL (l.take j) s ++ (if e.1 = s then [] else [e]) := by
  rw [List.take_add_one, h]
  unfold dropL
  rw [List.filter_append]
  by_cases he : e.1 = s <;> simp [he]
theorem atV_is {l : List Ent} {s : ByteArray} {j : Nat} {e : Ent} (ho : OnceL l) (h : l[j]? = some e) : (atV l s = (j : Int)) ↔ e.1 = s := by
  unfold atV
  constructor
  · intro hh
    cases hat : atN l s with
    | none => rw [hat] at hh; simp at hh
    | some i =>
      rw [hat] at hh
      have : i = j := by simp at hh; omega
      subst this
      obtain ⟨v, h1, _⟩ := atN_at hat
      rw [h] at h1
      cases h1; rfl
  · intro he
    cases hat : atN l s with
    | none =>
      have : hasL l s = false := by rw [← atN_has, hat]; rfl
      have h2 := hasL_iff.2 ⟨e, List.mem_of_getElem? h, he⟩
      rw [this] at h2; cases h2
    | some i =>
      obtain ⟨v, h1, _⟩ := atN_at hat
      have hi : i < l.length := (List.getElem?_eq_some_iff.1 h1).1
      have hnd : (l.map (fun e => e.1)).Nodup := ho
      have : i = j := (List.getElem?_inj (by rw [List.length_map]; exact hi) hnd).1 (by rw [List.getElem?_map, List.getElem?_map, h1, h]; simp [he])
      rw [this]

set_option maxHeartbeats 2000000 in
theorem rdel_calls {r : Nat} {nv vv : Value} {l : List Ent} (w : World) (h : RfAt r nv vv l w) (hone : OnceL l) (s : ByteArray) (hf : l.length ≤ 1000000) :
    Calls Try.prog 21 #[.pointer (some ⟨r, 0, none⟩), .string s] w fun e w' => e = .returned (.bool (hasL l s)) ∧
      ∃ nv' vv', RfAt r nv' vv' (dropL l s) w' ∧ Keep (FtR r nv vv) w w' ∧ ∀ k, FtR r nv' vv' k → FtR r nv vv k ∨ w.heap.size ≤ k := by
  obtain ⟨na, nc, rfl⟩ := row_shape h.nam
  obtain ⟨va, vc, rfl⟩ := row_shape h.val
  have HA := hid (at_calls w h s hf)
  have H := hid h
  have hr := h.lt (.inl rfl)
  have HO := hid hone
  have HV := hid (show decide (0 ≤ atV l s) = hasL l s by
    rw [← atN_has]; unfold atV
    cases atN l s with
    | none => rfl
    | some i => exact decide_eq_true (Int.natCast_nonneg i))
  obtain ⟨V, hV⟩ : ∃ V, atV l s = V := ⟨_, rfl⟩
  have HVV := hid hV
  rw [hV] at HA HV
  clear h hone hV
  go_enter Try.func21, Try.ntmps21
  go_wp2_with fail
  refine HA.out.mono ?_
  rintro e1 w1 ⟨rfl, rfl⟩
  go_wp2_with fail
  go_loopw [6, 7, 8] (fun a b i wr => ∃ j : Nat, j ≤ l.length ∧ i = .int .i64 j ∧ Hid (StrsOwn w1.heap.size a ((dropL (l.take j) s).map (·.1)) wr) ∧ Hid (ValsOwn w1.heap.size b (dropL (l.take j) s) wr) ∧ Hid (Below w1.heap.size w1 wr)) (fun _ _ i _ => l.length - (intOf i).toNat)
  case atStart => exact ⟨0, by omega, rfl, hid ⟨⟨rfl, .inl ⟨rfl, rfl⟩⟩, fun g hg => by simp [Value.ownBlock] at hg⟩, hid ⟨⟨rfl, .inl ⟨rfl, rfl⟩⟩, fun g hg => by simp [Value.ownBlock] at hg⟩, hid (Below.refl _ _)⟩
  case round =>
    obtain ⟨j, hj, rfl, hN, hW, hB⟩ := hrel
    have hR := H.out.on hB.out
    obtain ⟨d0, d1⟩ := hR.cells
    have hz := hid hB.out.size
    by_cases hjl : j < l.length
    · obtain ⟨e, he⟩ : ∃ e, l[j]? = some e := ⟨l[j], List.getElem?_eq_getElem hjl⟩
      have hdt := hid (drop_take (s := s) he)
      have hV2 := atV_is (s := s) HO.out he
      rw [HVV.out] at hV2
      by_cases hes : e.1 = s
      · have hVj := hV2.2 hes
        subst hVj
        clear hV2 hR
        go_wp2_with fail
        refine ⟨⟨j + 1, by omega, by simp, ?_, ?_, hB⟩, by simp [intOf]; omega⟩
        · rw [hdt.out, if_pos hes, List.append_nil]; exact hN
        · rw [hdt.out, if_pos hes, List.append_nil]; exact hW
      · have hVj : ((j : Int) != V) = true := by rw [bne_iff_ne]; exact fun e => hes (hV2.1 e.symm)
        obtain ⟨g, cp, hg, hgl, c2⟩ := hR.name he
        injection hg with hg1 hg2 hg3
        subst hg1 hg3
        obtain ⟨g', cp', hg', hgl', v0, v1, v2, _⟩ := hR.value he
        injection hg' with hg1' hg2' hg3'
        subst hg1' hg3'
        have hl2 : (dropL (l.take j) s).length ≤ 1000000 := by
          have h1 := List.length_filter_le (fun e => decide (e.1 ≠ s)) (l.take j)
          rw [List.length_take] at h1
          unfold dropL
          omega
        have HL1 := hid (show ((dropL (l.take j) s).map (·.1)).length ≤ 1000000 by rw [List.length_map]; exact hl2)
        have HL2 := hid hl2
        clear hV2 hR hl2
        go_wp2_with (first
          | (at_builtin; refine strs_app rfl _ _ rfl w1.heap.size _ e.1 _ (by rfl) hN.out _ (by rfl) (by simp) HL1.out hz.out ?_; intro g2 cp2 w3 hS3 hg3 hat3; simp only [List.length_map] at hS3; have S3 := hid hS3; have B3 := hid (hB.out.grown hg3 hz.out (fun k hk => hN.out.2 k hk)); have W3 := hid (show ValsOwn w1.heap.size _ (dropL (l.take j) s) w3 from ⟨row_keep hW.out.1 (fun k hk => hg3.block k (by obtain ⟨cur, hc⟩ := row_lt hW.out.1 hk; exact blk_lt hc) (fun e2 => by obtain ⟨c3, hc3⟩ := row_lt hW.out.1 hk; obtain ⟨c4, hc4⟩ := row_lt hN.out.1 e2.symm; unfold Blk at hc3 hc4; rw [hc3] at hc4; cases hc4)), hW.out.2⟩); have z3 := hid B3.out.size; obtain ⟨d2, d3⟩ := (H.out.on B3.out).cells; obtain ⟨g6, cp6, hg6, hgl6, v3, v4, v5, _⟩ := (H.out.on B3.out).value he; injection hg6 with hg6a hg6b hg6c; injection hg6a with hg6a; injection hg6a with hg6a; subst hg6a; clear hS3 hg3 hat3 hg6b hg6c)
          | (at_builtin; refine vals_app rfl _ _ rfl w1.heap.size _ e _ (by rfl) W3.out _ (by rfl) (by simp) HL2.out z3.out ?_; intro g7 cp7 w7 hS7 hg7; have S7 := hid hS7; have B7 := hid (B3.out.grown hg7 z3.out (fun k hk => W3.out.2 k hk)); have N7 := hid (strsOwn_keep (S := fun b => Value.ownBlock _ = some b) S3.out (Keep.grown hg7 (fun k hk => hk)) (fun k hk e2 => by obtain ⟨c3, hc3⟩ := row_lt S3.out.1 hk; obtain ⟨c4, hc4⟩ := row_lt W3.out.1 e2; unfold Blk at hc3 hc4; rw [hc3] at hc4; cases hc4)); clear hS7 hg7)
          | fail)
        refine ⟨⟨j + 1, by omega, by simp, ?_, ?_, B7⟩, by simp [intOf]; omega⟩
        · rw [hdt.out, if_neg hes, List.map_append]; exact N7
        · rw [hdt.out, if_neg hes]; exact S7
    · have hje : j = l.length := by omega
      subst hje
      rw [List.take_length] at hN hW
      obtain ⟨na2, nc2, rfl⟩ := row_shape hN.out.1
      obtain ⟨va2, vc2, rfl⟩ := row_shape hW.out.1
      simp only [List.length_map] at hN
      have f0 := blk_free hR.blk 0
      have f1 := blk_free hR.blk 1
      have R2 := hid hR
      clear hR
      go_wp2_with fail
      go_ret
      have hrw : r < wr.heap.size := R2.out.lt (.inl rfl)
      have K := (Keep.set (S := fun b => b = r) rfl wr 0 (.slice na2 (dropL l s).length nc2)).trans (Keep.set (S := fun b => b = r) rfl (wr.setCell ⟨r, 0, none⟩ (.slice na2 (dropL l s).length nc2)) 1 (.slice va2 (dropL l s).length vc2)) (fun _ _ h => h)
      refine ⟨by rw [← HV.out]; rfl, .slice na2 (dropL l s).length nc2, .slice va2 (dropL l s).length vc2, ⟨blk_set (blk_set R2.out.blk 0 _) 1 _, ?_, ?_⟩, ?_, ?_⟩
      · exact row_keep (strs_names hN.out) (fun k hk => K.block k (by obtain ⟨cur, hc⟩ := row_lt (strs_names hN.out) hk; exact blk_lt hc) (fun e => by have := hN.out.2 k hk; omega))
      · exact row_keep hW.out.1 (fun k hk => K.block k (by obtain ⟨cur, hc⟩ := row_lt hW.out.1 hk; exact blk_lt hc) (fun e => by have := hW.out.2 k hk; omega))
      · exact (Keep.of (S := FtR r (.slice na l.length nc) (.slice va l.length vc)) hB.out).trans (K.mono (T := FtR r (.slice na l.length nc) (.slice va l.length vc)) (fun b _ e => .inl e)) (fun _ _ h => h)
      · rintro k (rfl | hk | hk)
        · exact .inl (.inl rfl)
        · exact .inr (hN.out.2 k hk)
        · exact .inr (hW.out.2 k hk)

end Go.Proofs.Ytphniknckmfilaa
