/- What becomes of an EFn. -/
import Derived.Test.YtmihckhflbepjaaDoorTk
import Derived.Test.YtmihckhflbepjaaDoorScFunA
import Derived.Test.YtmihckhflbepjaaDoorScLaid
namespace Go.Proofs.YtmihckhflbepjaaDoor
set_option linter.unusedSimpArgs false
open Go.RowKit

theorem run_mkmap (w : World) : (Instr.makeMap 49 none).run Tryd.prog w = .ok (.map (some w.heap.size)) (w.alloc (.map #[] 0)) := by simp [Instr.makeMap]
theorem fun_held {r g : Nat} {x y z : Value} {k o n : Int} {s : ByteArray} {nv kv : Value} {p : Int} {a : World} (h : Blk r 51 #[x, y, z] a) (l : Laid k o n s nv kv p g a) :
    a.cell? ⟨r, 1, none⟩ = some y ∧ a.cell? ⟨r, 2, none⟩ = some z ∧ a.cell? ⟨g, 0, none⟩ = some (.int .i64 k) ∧ a.cell? ⟨g, 1, none⟩ = some (.int .i64 o) ∧ a.cell? ⟨g, 2, none⟩ = some (.int .i64 n) ∧ a.cell? ⟨g, 3, none⟩ = some (.string s) ∧ a.cell? ⟨g, 4, none⟩ = some nv ∧ a.cell? ⟨g, 5, none⟩ = some kv ∧ a.cell? ⟨g, 6, none⟩ = some (.int .i64 p) :=
  ⟨by rw [blk_cell h]; rfl, by rw [blk_cell h]; rfl, l.cells⟩

theorem row_some {T : TypeId} {z n : Nat} {v : Value} {xs : List Value} {w : World} (h : w.ownsRow 0 T z v n xs) (hn : 0 < n) : ∃ g cap, v = .slice (some ⟨g, 0, none⟩) n cap := by
  rcases h.2 with ⟨h1, h2⟩ | ⟨g, cap, cur, h1, _⟩
  · omega
  · exact ⟨g, cap, h1⟩
theorem Rs.nm {B r gm gn : Nat} {fv : Value} {gl lo : List ByteArray} {fs : List Fp} {ok : Nat → Prop} {a : World} (h : Rs B r gm (.map (some gn)) fv gl lo fs ok a) : NmAt gn lo a := by
  rcases h.ls with ⟨e2, _⟩ | ⟨b', e2, hn⟩
  · cases e2
  · cases e2; exact hn
theorem parP_len : ∀ {ns acc l : List ByteArray} {p : Int}, acc.length ≤ 24 → parP p ns acc = .ok l → l.length ≤ 24
  | [], acc, l, p, ha, h => by cases h; exact ha
  | s :: r, acc, l, p, ha, h => by
    unfold parP at h
    cases hd : declR acc s p with
    | ok a => rw [hd] at h; exact parP_len (declR_len ha hd) h
    | bad q' e' => rw [hd] at h; cases h
set_option maxHeartbeats 8000000 in
set_option maxRecDepth 20000 in
theorem fun_of (o n : Int) (s : ByteArray) (ns : List ByteArray) (ks : List Nd) (p : Int) (hKids : KidsRes ks) : FunRes (.mk 8 o n s ns ks p) := by
  intro B r gm lv fv gl lo fs ok nv kv w hRs hN hB hsm hc h32
  obtain ⟨h1, h2⟩ := ndIn_mk.1 hN.out
  obtain ⟨na, nc, rfl, _⟩ := strsIn_cases h1
  obtain ⟨ka, kc, rfl, _⟩ := kidsIn_cases h2
  obtain ⟨hs6, hns6, hnz, hsk⟩ := small_mk hsm
  obtain ⟨fa, fc, rfl⟩ := fnsS_shape hRs.out.fn
  have hrw := blk_lt hRs.out.blk
  have hfw : ∀ g, (Value.slice fa fs.length fc).ownBlock = some g → g < w.heap.size := fun g hg => by obtain ⟨cur, hc⟩ := fnsS_lt hRs.out.fn hg; exact blk_lt hc
  have hlv : ∃ q, lv = .map q := by
    rcases hRs.out.ls with ⟨h, _⟩ | ⟨b, h, _⟩
    · exact ⟨_, h⟩
    · exact ⟨_, h⟩
  obtain ⟨lq, rfl⟩ := hlv
  have r0 : w.cell? ⟨r, 0, none⟩ = some (.map (some gm)) := by rw [blk_cell hRs.out.blk]; rfl
  have r1 : w.cell? ⟨r, 1, none⟩ = some (.map lq) := by rw [blk_cell hRs.out.blk]; rfl
  have r2 : w.cell? ⟨r, 2, none⟩ = some (.slice fa fs.length fc) := by rw [blk_cell hRs.out.blk]; rfl
  have f1 : w.frozen? ⟨r, 1, none⟩ = false := blk_free hRs.out.blk 1
  have A3 := (((Below.refl w.heap.size w).alloc (Nat.le_refl _) (Obj.cells #[.int .i64 8, .int .i64 o, .int .i64 n, .string s, .slice na ns.length nc, .slice ka ks.length kc, .int .i64 p] 25)).alloc (by simp) (Obj.cells #[.int .i64 0, .int .i64 0, .int .i64 0, .string ⟨#[]⟩, .slice none 0 0, .slice none 0 0, .int .i64 0] 25)).alloc (by simp; omega) (Obj.cells #[.int .i64 0, .int .i64 0] 53)
  have s0 : (((w.alloc (Obj.cells #[.int .i64 8, .int .i64 o, .int .i64 n, .string s, .slice na ns.length nc, .slice ka ks.length kc, .int .i64 p] 25)).alloc (Obj.cells #[.int .i64 0, .int .i64 0, .int .i64 0, .string ⟨#[]⟩, .slice none 0 0, .slice none 0 0, .int .i64 0] 25)).alloc (Obj.cells #[.int .i64 0, .int .i64 0] 53)).cell? ⟨r, 0, none⟩ = some (.map (some gm)) := (A3.cell (p := ⟨r, 0, none⟩) hrw).trans r0
  have s1 : (((w.alloc (Obj.cells #[.int .i64 8, .int .i64 o, .int .i64 n, .string s, .slice na ns.length nc, .slice ka ks.length kc, .int .i64 p] 25)).alloc (Obj.cells #[.int .i64 0, .int .i64 0, .int .i64 0, .string ⟨#[]⟩, .slice none 0 0, .slice none 0 0, .int .i64 0] 25)).alloc (Obj.cells #[.int .i64 0, .int .i64 0] 53)).cell? ⟨r, 1, none⟩ = some (.map lq) := (A3.cell (p := ⟨r, 1, none⟩) hrw).trans r1
  have s2 : (((w.alloc (Obj.cells #[.int .i64 8, .int .i64 o, .int .i64 n, .string s, .slice na ns.length nc, .slice ka ks.length kc, .int .i64 p] 25)).alloc (Obj.cells #[.int .i64 0, .int .i64 0, .int .i64 0, .string ⟨#[]⟩, .slice none 0 0, .slice none 0 0, .int .i64 0] 25)).alloc (Obj.cells #[.int .i64 0, .int .i64 0] 53)).cell? ⟨r, 2, none⟩ = some (.slice fa fs.length fc) := (A3.cell (p := ⟨r, 2, none⟩) hrw).trans r2
  have hfl : (((w.alloc (Obj.cells #[.int .i64 8, .int .i64 o, .int .i64 n, .string s, .slice na ns.length nc, .slice ka ks.length kc, .int .i64 p] 25)).alloc (Obj.cells #[.int .i64 0, .int .i64 0, .int .i64 0, .string ⟨#[]⟩, .slice none 0 0, .slice none 0 0, .int .i64 0] 25)).alloc (Obj.cells #[.int .i64 0, .int .i64 0] 53)).frozen? ⟨r, 1, none⟩ = false := blk_free (blk_on hRs.out.blk A3) 1
  have HL0 := hid (laid_new 8 o n s (.slice na ns.length nc) (.slice ka ks.length kc) p w)
  have HZ0 := hid (show (((w.alloc (Obj.cells #[.int .i64 8, .int .i64 o, .int .i64 n, .string s, .slice na ns.length nc, .slice ka ks.length kc, .int .i64 p] 25)).alloc (Obj.cells #[.int .i64 0, .int .i64 0, .int .i64 0, .string ⟨#[]⟩, .slice none 0 0, .slice none 0 0, .int .i64 0] 25)).alloc (Obj.cells #[.int .i64 0, .int .i64 0] 53)).heap.size = w.heap.size + 1 + 1 + 1 by simp)
  have HA3 := hid A3
  have HNR : Hid (∀ b, w.heap.size ≤ b → ¬ RT r (.slice fa fs.length fc) b) := hid (fun b hb e => by
    rcases e with e | e
    · omega
    · have := hfw b e; omega)
  have HRs := hid hRs.out
  have HN := hid hN.out
  have HKids := hid hKids
  clear hRs hN h1 h2 A3 hKids
  unfold ndV
  simp only [Nd.kind, Nd.op, Nd.num, Nd.str, Nd.pl, Nd.names, Nd.kids]
  by_cases hfull : fs.length = 32
  · have HP := hid (show resN gl (.mk 8 o n s ns ks p) lo fs = .bad p 5 by rw [resN, if_pos rfl, if_pos hfull])
    go_enter Tryd.func60, Tryd.ntmps60
    go_wp2_with fail
    go_region
    all_goals
      go_wp2_with fail
      refine bodyPost_ret (ret_n2 (g := w.heap.size + 1) (g' := w.heap.size + 1 + 1) (v0 := (.int .i64 0)) (v1 := (.int .i64 0)) (v2 := (.int .i64 0)) (v3 := (.string ⟨#[]⟩)) (v4 := (.slice none 0 0)) (v5 := (.slice none 0 0)) (v6 := (.int .i64 0)) (x := (.int .i64 p)) (y := (.int .i64 5)) rfl rfl rfl ⟨by go_simp, by go_simp, by go_simp, by go_simp, by go_simp, by go_simp, by go_simp⟩ ⟨by go_simp, by go_simp⟩) rfl ?_
      rw [HP.out]
      refine ⟨⟨0, 0, rfl⟩, ?_⟩
      have bb := ((((Below.refl w.heap.size w).alloc (Nat.le_refl _) (Obj.cells #[.int .i64 8, .int .i64 o, .int .i64 n, .string s, .slice na ns.length nc, .slice ka ks.length kc, .int .i64 p] 25)).alloc (by simp) (Obj.cells #[.int .i64 0, .int .i64 0, .int .i64 0, .string ⟨#[]⟩, .slice none 0 0, .slice none 0 0, .int .i64 0] 25)).alloc (by simp; omega) (Obj.cells #[.int .i64 p, .int .i64 5] 53)).drew
      exact (HRs.out.on bb).bad (Keep.of bb)
  · have hmk := run_mkmap (((w.alloc (Obj.cells #[.int .i64 8, .int .i64 o, .int .i64 n, .string s, .slice na ns.length nc, .slice ka ks.length kc, .int .i64 p] 25)).alloc (Obj.cells #[.int .i64 0, .int .i64 0, .int .i64 0, .string ⟨#[]⟩, .slice none 0 0, .slice none 0 0, .int .i64 0] 25)).alloc (Obj.cells #[.int .i64 0, .int .i64 0] 53))
    have hfull2 : ¬ (fs.length : Int) = 32 := by omega
    have A4 := HA3.out.alloc (by have := HZ0.out; omega) (.map #[] 0)
    have a1 : ((((w.alloc (Obj.cells #[.int .i64 8, .int .i64 o, .int .i64 n, .string s, .slice na ns.length nc, .slice ka ks.length kc, .int .i64 p] 25)).alloc (Obj.cells #[.int .i64 0, .int .i64 0, .int .i64 0, .string ⟨#[]⟩, .slice none 0 0, .slice none 0 0, .int .i64 0] 25)).alloc (Obj.cells #[.int .i64 0, .int .i64 0] 53)).alloc (.map #[] 0)).cell? ⟨r, 1, none⟩ = some (.map lq) := (A4.cell (p := ⟨r, 1, none⟩) hrw).trans r1
    have a2 : ((((w.alloc (Obj.cells #[.int .i64 8, .int .i64 o, .int .i64 n, .string s, .slice na ns.length nc, .slice ka ks.length kc, .int .i64 p] 25)).alloc (Obj.cells #[.int .i64 0, .int .i64 0, .int .i64 0, .string ⟨#[]⟩, .slice none 0 0, .slice none 0 0, .int .i64 0] 25)).alloc (Obj.cells #[.int .i64 0, .int .i64 0] 53)).alloc (.map #[] 0)).frozen? ⟨r, 1, none⟩ = false := blk_free (blk_on HRs.out.blk A4) 1
    have HZ1 := hid (show ((((w.alloc (Obj.cells #[.int .i64 8, .int .i64 o, .int .i64 n, .string s, .slice na ns.length nc, .slice ka ks.length kc, .int .i64 p] 25)).alloc (Obj.cells #[.int .i64 0, .int .i64 0, .int .i64 0, .string ⟨#[]⟩, .slice none 0 0, .slice none 0 0, .int .i64 0] 25)).alloc (Obj.cells #[.int .i64 0, .int .i64 0] 53)).alloc (.map #[] 0)).heap.size = w.heap.size + 1 + 1 + 1 + 1 by simp)
    have N0 := nmAt_new (((w.alloc (Obj.cells #[.int .i64 8, .int .i64 o, .int .i64 n, .string s, .slice na ns.length nc, .slice ka ks.length kc, .int .i64 p] 25)).alloc (Obj.cells #[.int .i64 0, .int .i64 0, .int .i64 0, .string ⟨#[]⟩, .slice none 0 0, .slice none 0 0, .int .i64 0] 25)).alloc (Obj.cells #[.int .i64 0, .int .i64 0] 53))
    rw [HZ0.out] at N0
    have HA4 := hid A4
    have R4 := HRs.out.on A4
    have HRM := hid (R4.relocal (lv' := .map (some (w.heap.size + 1 + 1 + 1))) (lo' := []) (.inr ⟨_, rfl, N0⟩) (fun b e => by cases e; omega))
    have KR := Keep.set (S := fun b => b = r) rfl ((((w.alloc (Obj.cells #[.int .i64 8, .int .i64 o, .int .i64 n, .string s, .slice na ns.length nc, .slice ka ks.length kc, .int .i64 p] 25)).alloc (Obj.cells #[.int .i64 0, .int .i64 0, .int .i64 0, .string ⟨#[]⟩, .slice none 0 0, .slice none 0 0, .int .i64 0] 25)).alloc (Obj.cells #[.int .i64 0, .int .i64 0] 53)).alloc (.map #[] 0)) 1 (.map (some (w.heap.size + 1 + 1 + 1)))
    have HKM := hid ((Keep.of (S := RT r (.slice fa fs.length fc)) A4).trans KR (fun i _ e => .inl e))
    have HLM := hid ((HL0.out.on ((Below.refl _ _).alloc (Nat.le_refl _) (.map #[] 0))).keep KR (fun b h1 h2 e => by omega))
    have HZM := hid (show w.heap.size + 1 + 1 + 1 + 1 ≤ (((((w.alloc (Obj.cells #[.int .i64 8, .int .i64 o, .int .i64 n, .string s, .slice na ns.length nc, .slice ka ks.length kc, .int .i64 p] 25)).alloc (Obj.cells #[.int .i64 0, .int .i64 0, .int .i64 0, .string ⟨#[]⟩, .slice none 0 0, .slice none 0 0, .int .i64 0] 25)).alloc (Obj.cells #[.int .i64 0, .int .i64 0] 53)).alloc (.map #[] 0)).setCell ⟨r, 1, none⟩ (.map (some (w.heap.size + 1 + 1 + 1)))).heap.size by have := KR.size; have := HZ1.out; omega)
    clear A4 N0 R4 KR
    go_enter Tryd.func60, Tryd.ntmps60
    go_wp2_with fail
    generalize ((((w.alloc (Obj.cells #[.int .i64 8, .int .i64 o, .int .i64 n, .string s, .slice na ns.length nc, .slice ka ks.length kc, .int .i64 p] 25)).alloc (Obj.cells #[.int .i64 0, .int .i64 0, .int .i64 0, .string ⟨#[]⟩, .slice none 0 0, .slice none 0 0, .int .i64 0] 25)).alloc (Obj.cells #[.int .i64 0, .int .i64 0] 53)).alloc (.map #[] 0)).setCell ⟨r, 1, none⟩ (.map (some (w.heap.size + 1 + 1 + 1))) = wM at *
    obtain ⟨gn, hgn⟩ : ∃ g, g = w.heap.size + 1 + 1 + 1 := ⟨_, rfl⟩
    rw [← hgn] at HRM ⊢
    have hgn1 : w.heap.size + 1 + 1 + 1 ≤ gn := by omega
    have hgn2 : gn < w.heap.size + 1 + 1 + 1 + 1 := by omega
    clear hgn a1 a2 hmk s0 s1 s2 hfl r0 r1 r2 f1 HZ1 HL0 hfull2
    have HRI := HRM
    have HLI := HLM
    have HKI := HKM
    have HZI := HZM
    clear HRM HLM HKM HZM
    cases hpp : parP p ns [] with
    | bad fp fe =>
      have HP := hid (show resN gl (.mk 8 o n s ns ks p) lo fs = .bad fp fe by rw [resN, if_pos rfl, if_neg hfull, hpp]; rfl)
      have he : fe ≠ 0 := parP_bad hpp
      have hgm : gm < w.heap.size := nmAt_lt HRs.out.gs
      have hokw : ∀ b, ok b → b < w.heap.size := fun b hb => (HRs.out.lt b hb).1
      have HBI := hid (HKI.out.below hB (rt_low HRs.out))
      refine wp_region_held_drew (S := (fun a => a.cell? ⟨r, 1, none⟩ = some (.map (some gn)) ∧ a.cell? ⟨r, 2, none⟩ = some (.slice fa fs.length fc) ∧ a.cell? ⟨w.heap.size, 0, none⟩ = some (.int .i64 8) ∧ a.cell? ⟨w.heap.size, 1, none⟩ = some (.int .i64 o) ∧ a.cell? ⟨w.heap.size, 2, none⟩ = some (.int .i64 n) ∧ a.cell? ⟨w.heap.size, 3, none⟩ = some (.string s) ∧ a.cell? ⟨w.heap.size, 4, none⟩ = some (.slice na ns.length nc) ∧ a.cell? ⟨w.heap.size, 5, none⟩ = some (.slice ka ks.length kc) ∧ a.cell? ⟨w.heap.size, 6, none⟩ = some (.int .i64 p))) (by kernel_rfl) (fun_held (blk_on HRI.out.blk (Below.refl _ _).drew) (HLI.out.on (Below.refl _ _).drew)) (fun hHeld => ?_)
      refine tkk 0 ?_
      refine tkk 1 ?_
      refine tkk 2 ?_
      refine tkk 3 ?_
      refine tkk 4 ?_
      refine wpAnyH_ready (rs := [5, 6]) (by kernel_rfl) (by simp) ?_
      refine AllReadyH.cons rfl (fun K hK => ?_) (AllReadyH.cons rfl (fun K hK => ?_) AllReadyH.nil)
      have HKK := hid hK
      clear hK
      go_simp
      have RI2 := HRI.out.on (Below.refl _ _).drew
      have HC := params_calls (.mk 8 o n s ns ks p) (.slice na ns.length nc) (.slice ka ks.length kc) wM.drew RI2.nm (by simp) (by omega) (ndIn_on HBI.out.drew _ _ _ HN.out) (by have := HZI.out; simp; omega) hsm
      simp only [Nd.kind, Nd.op, Nd.num, Nd.str, Nd.pl, Nd.names, Nd.kids] at HC
      rw [hpp] at HC
      unfold fltV Decl at HC
      simp only at HC
      refine HC.mono ?_
      clear HC
      rintro e1 w1 ⟨rfl, d1, k1⟩
      have KD := hid ((Keep.drew (fun b => b = gn) wM).trans k1 (fun _ _ h => h))
      have R1 := hid (blk_keep HRI.out.blk KD.out (by omega))
      have L1 := hid (HLI.out.keep KD.out (fun b h1 h2 => by omega))
      have HBD1 := hid (((HRI.out.bad HKI.out).on (Below.refl _ _).drew).pass k1 hrw (fun b e => ⟨by omega, fun cs hcs => nm_ne_blk RI2.nm hcs (show gn = b by omega)⟩))
      refine HKK.out.out _ _ (fun_held R1.out L1.out) (fun _ => ?_)
      clear HKK K k1 d1 RI2
      refine rdy 6 (fun K hK => ?_)
      go_simp
      have A2 := (Below.refl w1.heap.size w1).alloc (Nat.le_refl _) (Obj.cells #[.int .i64 0, .int .i64 0] 53)
      refine hK.out _ _ (fun_held (blk_on R1.out A2) (L1.out.on A2)) (fun _ => ?_)
      clear hK K A2
      refine rdy 7 (fun K hK => ?_)
      go_simp
      have A2 := (Below.refl w1.heap.size w1).alloc (Nat.le_refl _) (Obj.cells #[.int .i64 fp, .int .i64 fe] 53)
      refine hK.out _ _ (fun_held (blk_on R1.out A2) (L1.out.on A2)) (fun _ => ?_)
      clear hK K
      refine wpAnyH_done (by kernel_rfl) ?_ _
      have HF6 := hid (blk_new w1 53 #[.int .i64 fp, .int .i64 fe])
      have HL6 := hid (L1.out.on A2)
      have HK6 := hid ((HKI.out.trans KD.out (fun i hi e => by omega)).trans (Keep.of (S := RT r (.slice fa fs.length fc)) A2) (fun _ _ h => h))
      have HBD6 := hid (HBD1.out.on A2)
      clear HBD1
      have HZ6 := hid (show w.heap.size + 1 + 1 + 1 + 1 ≤ w1.heap.size ∧ w1.heap.size < (w1.alloc (Obj.cells #[.int .i64 fp, .int .i64 fe] 53)).heap.size from ⟨by have := KD.out.size; have := HZI.out; omega, by simp⟩)
      clear A2 KD R1 L1 hHeld
      generalize w1.alloc (Obj.cells #[.int .i64 fp, .int .i64 fe] 53) = W6 at *
      generalize w1.heap.size = gf at *
      rotate_left 1
      have HKK := hid hK
      clear hK
      go_simp
      have A4 := ((Below.refl wM.heap.size wM).alloc (Nat.le_refl _) (Obj.cells #[.int .i64 0, .int .i64 0] 53)).drew
      have G4 : Blk wM.heap.size 53 #[.int .i64 0, .int .i64 0] (wM.alloc (Obj.cells #[.int .i64 0, .int .i64 0] 53)).drew := blk_new wM 53 #[.int .i64 0, .int .i64 0]
      refine HKK.out.out _ _ (fun_held (blk_on HRI.out.blk A4) (HLI.out.on A4)) (fun _ => ?_)
      clear HKK K
      refine rdy 5 (fun K hK => ?_)
      have HKK := hid hK
      clear hK
      go_simp
      have RI2 := HRI.out.on A4
      have HC := params_calls (.mk 8 o n s ns ks p) (.slice na ns.length nc) (.slice ka ks.length kc) (wM.alloc (Obj.cells #[.int .i64 0, .int .i64 0] 53)).drew RI2.nm (by simp) (by omega) (ndIn_on (HBI.out.trans (A4.mono (by have := HZI.out; omega))) _ _ _ HN.out) (by have := HZI.out; simp; omega) hsm
      simp only [Nd.kind, Nd.op, Nd.num, Nd.str, Nd.pl, Nd.names, Nd.kids] at HC
      rw [hpp] at HC
      unfold fltV Decl at HC
      simp only at HC
      refine HC.mono ?_
      clear HC
      rintro e1 w1 ⟨rfl, d1, k1⟩
      have hzI := HZI.out
      have hzA := A4.size
      have R1 := hid (blk_keep RI2.blk k1 (by omega))
      have L1 := hid ((HLI.out.on A4).keep k1 (fun b h1 h2 => by omega))
      have G1 := blk_keep G4 k1 (by omega)
      have K1 := hid ((HKI.out.trans (Keep.of (S := RT r (.slice fa fs.length fc)) A4) (fun _ _ h => h)).trans k1 (fun i hi e => by omega))
      have HBD1 := hid (((HRI.out.bad HKI.out).on A4).pass k1 hrw (fun b e => ⟨by omega, fun cs hcs => nm_ne_blk RI2.nm hcs (show gn = b by omega)⟩))
      have hz1 := k1.size
      have hzA2 : (wM.alloc (Obj.cells #[.int .i64 0, .int .i64 0] 53)).drew.heap.size = wM.heap.size + 1 := by simp
      have za0 : w1.cell? ⟨wM.heap.size, 0, none⟩ = some (.int .i64 0) := by rw [blk_cell G1]; rfl
      have za1 : w1.cell? ⟨wM.heap.size, 1, none⟩ = some (.int .i64 0) := by rw [blk_cell G1]; rfl
      have fa0 : w1.frozen? ⟨wM.heap.size, 0, none⟩ = false := blk_free G1 0
      have fa1 : w1.frozen? ⟨wM.heap.size, 1, none⟩ = false := blk_free G1 1
      refine HKK.out.out _ _ (fun_held R1.out L1.out) (fun _ => ?_)
      clear HKK K k1 d1
      refine rdy 7 (fun K hK => ?_)
      go_simp
      have KS := (Keep.set (S := fun b => b = wM.heap.size) rfl w1 0 (.int .i64 fp)).trans (Keep.set (S := fun b => b = wM.heap.size) rfl (w1.setCell ⟨wM.heap.size, 0, none⟩ (.int .i64 fp)) 1 (.int .i64 fe)) (fun _ _ h => h)
      have HF6 := hid (show Blk wM.heap.size 53 #[.int .i64 fp, .int .i64 fe] ((w1.setCell ⟨wM.heap.size, 0, none⟩ (.int .i64 fp)).setCell ⟨wM.heap.size, 1, none⟩ (.int .i64 fe)) by simpa using blk_set (blk_set G1 0 (.int .i64 fp)) 1 (.int .i64 fe))
      have hrI := blk_lt HRI.out.blk
      have R6 := blk_keep R1.out KS (by omega)
      have HL6 := hid (L1.out.keep KS (fun b h1 h2 => by omega))
      refine hK.out _ _ (fun_held R6 HL6.out) (fun _ => ?_)
      clear hK K
      refine wpAnyH_done (by kernel_rfl) ?_ _
      have HK6 := hid (K1.out.trans KS (fun i hi e => by omega))
      have HBD6 := hid (HBD1.out.pass KS hrw (fun b e => ⟨by omega, by rw [show b = wM.heap.size from e]; exact blk_not G1 (by decide)⟩))
      clear HBD1
      have hex : ∃ g, Hid (Blk g 53 #[.int .i64 fp, .int .i64 fe] ((w1.setCell ⟨wM.heap.size, 0, none⟩ (.int .i64 fp)).setCell ⟨wM.heap.size, 1, none⟩ (.int .i64 fe))) ∧ Hid (w.heap.size + 1 + 1 + 1 + 1 ≤ g ∧ g < ((w1.setCell ⟨wM.heap.size, 0, none⟩ (.int .i64 fp)).setCell ⟨wM.heap.size, 1, none⟩ (.int .i64 fe)).heap.size) ∧ g = wM.heap.size := ⟨_, HF6, hid ⟨by omega, by have := KS.size; omega⟩, rfl⟩
      clear HF6 KS R6 K1 G1 G4 A4 RI2 za0 za1 fa0 fa1 hz1 hzA hzA2 hzI R1 L1 hHeld hrI
      generalize (w1.setCell ⟨wM.heap.size, 0, none⟩ (.int .i64 fp)).setCell ⟨wM.heap.size, 1, none⟩ (.int .i64 fe) = W6 at *
      obtain ⟨gf, HF6, HZ6, hgf⟩ := hex
      rw [← hgf]
      clear hgf
      rotate_left 1
      all_goals
        have hne3 : gf ≠ w.heap.size + 1 := by have := HZ6.out; omega
        have hne4 : gf ≠ w.heap.size + 1 + 1 := by have := HZ6.out; omega
        have hne5 : w.heap.size + 1 ≠ gf := Ne.symm hne3
        have hne6 : w.heap.size + 1 + 1 ≠ gf := Ne.symm hne4
        have u0 : W6.cell? ⟨gf, 0, none⟩ = some (.int .i64 fp) := by rw [blk_cell HF6.out]; rfl
        have u1 : W6.cell? ⟨gf, 1, none⟩ = some (.int .i64 fe) := by rw [blk_cell HF6.out]; rfl
        go_wp2_with fail
        clear u0 u1
        refine (found_calls fp fe W6).mono ?_
        rintro e9 w9 ⟨rfl, b9⟩
        have hb9 : (fe != 0) = true := by rw [bne_iff_ne]; exact he
        have L9 := hid (HL6.out.on b9)
        have GF9 := hid (blk_on HF6.out b9)
        have K9 := hid (HBD6.out.on b9)
        have t0 : w9.cell? ⟨gf, 0, none⟩ = some (.int .i64 fp) := by rw [blk_cell GF9.out]; rfl
        have t1 : w9.cell? ⟨gf, 1, none⟩ = some (.int .i64 fe) := by rw [blk_cell GF9.out]; rfl
        have za0 : w9.cell? ⟨w.heap.size + 1, 0, none⟩ = some (.int .i64 0) := by rw [blk_cell L9.out.out]; rfl
        have za1 : w9.cell? ⟨w.heap.size + 1, 1, none⟩ = some (.int .i64 0) := by rw [blk_cell L9.out.out]; rfl
        have za2 : w9.cell? ⟨w.heap.size + 1, 2, none⟩ = some (.int .i64 0) := by rw [blk_cell L9.out.out]; rfl
        have za3 : w9.cell? ⟨w.heap.size + 1, 3, none⟩ = some (.string ⟨#[]⟩) := by rw [blk_cell L9.out.out]; rfl
        have za4 : w9.cell? ⟨w.heap.size + 1, 4, none⟩ = some (.slice none 0 0) := by rw [blk_cell L9.out.out]; rfl
        have za5 : w9.cell? ⟨w.heap.size + 1, 5, none⟩ = some (.slice none 0 0) := by rw [blk_cell L9.out.out]; rfl
        have za6 : w9.cell? ⟨w.heap.size + 1, 6, none⟩ = some (.int .i64 0) := by rw [blk_cell L9.out.out]; rfl
        have fa0 : w9.frozen? ⟨w.heap.size + 1, 0, none⟩ = false := blk_free L9.out.out 0
        have fa1 : w9.frozen? ⟨w.heap.size + 1, 1, none⟩ = false := blk_free L9.out.out 1
        have fa2 : w9.frozen? ⟨w.heap.size + 1, 2, none⟩ = false := blk_free L9.out.out 2
        have fa3 : w9.frozen? ⟨w.heap.size + 1, 3, none⟩ = false := blk_free L9.out.out 3
        have fa4 : w9.frozen? ⟨w.heap.size + 1, 4, none⟩ = false := blk_free L9.out.out 4
        have fa5 : w9.frozen? ⟨w.heap.size + 1, 5, none⟩ = false := blk_free L9.out.out 5
        have fa6 : w9.frozen? ⟨w.heap.size + 1, 6, none⟩ = false := blk_free L9.out.out 6
        have zb0 : w9.cell? ⟨w.heap.size + 1 + 1, 0, none⟩ = some (.int .i64 0) := by rw [blk_cell L9.out.flt]; rfl
        have zb1 : w9.cell? ⟨w.heap.size + 1 + 1, 1, none⟩ = some (.int .i64 0) := by rw [blk_cell L9.out.flt]; rfl
        have fb0 : w9.frozen? ⟨w.heap.size + 1 + 1, 0, none⟩ = false := blk_free L9.out.flt 0
        have fb1 : w9.frozen? ⟨w.heap.size + 1 + 1, 1, none⟩ = false := blk_free L9.out.flt 1
        clear b9
        go_wp2_with fail
        go_region
        go_wp2_with fail
        refine bodyPost_ret (ret_n2 (g := w.heap.size + 1) (g' := w.heap.size + 1 + 1) (v0 := (.int .i64 0)) (v1 := (.int .i64 0)) (v2 := (.int .i64 0)) (v3 := (.string ⟨#[]⟩)) (v4 := (.slice none 0 0)) (v5 := (.slice none 0 0)) (v6 := (.int .i64 0)) (x := (.int .i64 fp)) (y := (.int .i64 fe)) rfl rfl rfl ⟨by go_simp, by go_simp, by go_simp, by go_simp, by go_simp, by go_simp, by go_simp⟩ ⟨by go_simp, by go_simp⟩) rfl ?_
        rw [HP.out]
        refine ⟨⟨0, 0, rfl⟩, ?_⟩
        have P1 := put72 (w := w9) (g := w.heap.size + 1) (f := w.heap.size + 1 + 1) (by omega) L9.out.out L9.out.flt (.int .i64 0) (.int .i64 0) (.int .i64 0) (.string ⟨#[]⟩) (.slice none 0 0) (.slice none 0 0) (.int .i64 0) (.int .i64 fp) (.int .i64 fe)
        exact (K9.out.put2 hrw P1.2.2 L9.out.out L9.out.flt (by omega) (by omega)).on (Below.refl _ _).drew
    | ok own1 =>
      have hown1 : own1.length ≤ 24 := parP_len (by simp) hpp
      have hgm : gm < w.heap.size := nmAt_lt HRs.out.gs
      have hokw : ∀ b, ok b → b < w.heap.size := fun b hb => (HRs.out.lt b hb).1
      have HBI := hid (HKI.out.below hB (rt_low HRs.out))
      refine wp_region_held_drew (S := (fun a => a.cell? ⟨r, 1, none⟩ = some (.map (some gn)) ∧ a.cell? ⟨r, 2, none⟩ = some (.slice fa fs.length fc) ∧ a.cell? ⟨w.heap.size, 0, none⟩ = some (.int .i64 8) ∧ a.cell? ⟨w.heap.size, 1, none⟩ = some (.int .i64 o) ∧ a.cell? ⟨w.heap.size, 2, none⟩ = some (.int .i64 n) ∧ a.cell? ⟨w.heap.size, 3, none⟩ = some (.string s) ∧ a.cell? ⟨w.heap.size, 4, none⟩ = some (.slice na ns.length nc) ∧ a.cell? ⟨w.heap.size, 5, none⟩ = some (.slice ka ks.length kc) ∧ a.cell? ⟨w.heap.size, 6, none⟩ = some (.int .i64 p))) (by kernel_rfl) (fun_held (blk_on HRI.out.blk (Below.refl _ _).drew) (HLI.out.on (Below.refl _ _).drew)) (fun hHeld => ?_)
      refine tkk 0 ?_
      refine tkk 1 ?_
      refine tkk 2 ?_
      refine tkk 3 ?_
      refine tkk 4 ?_
      refine wpAnyH_ready (rs := [5, 6]) (by kernel_rfl) (by simp) ?_
      refine AllReadyH.cons rfl (fun K hK => ?_) (AllReadyH.cons rfl (fun K hK => ?_) AllReadyH.nil)
      have HKK := hid hK
      clear hK
      go_simp
      have RI2 := HRI.out.on (Below.refl _ _).drew
      have HC := params_calls (.mk 8 o n s ns ks p) (.slice na ns.length nc) (.slice ka ks.length kc) wM.drew RI2.nm (by simp) (by omega) (ndIn_on HBI.out.drew _ _ _ HN.out) (by have := HZI.out; simp; omega) hsm
      simp only [Nd.kind, Nd.op, Nd.num, Nd.str, Nd.pl, Nd.names, Nd.kids] at HC
      rw [hpp] at HC
      unfold fltV Decl at HC
      simp only at HC
      refine HC.mono ?_
      clear HC
      rintro e1 w1 ⟨rfl, d1, k1⟩
      have KD := hid ((Keep.drew (fun b => b = gn) wM).trans k1 (fun _ _ h => h))
      have R1 := hid (blk_keep HRI.out.blk KD.out (by omega))
      have L1 := hid (HLI.out.keep KD.out (fun b h1 h2 => by omega))
      have RS1 := hid (RI2.named k1 d1 (by omega) (fun b hb => by have := hokw b hb; omega))
      refine HKK.out.out _ _ (fun_held R1.out L1.out) (fun _ => ?_)
      clear HKK K k1 d1 RI2
      refine rdy 6 (fun K hK => ?_)
      go_simp
      have A2 := (Below.refl w1.heap.size w1).alloc (Nat.le_refl _) (Obj.cells #[.int .i64 0, .int .i64 0] 53)
      refine hK.out _ _ (fun_held (blk_on R1.out A2) (L1.out.on A2)) (fun _ => ?_)
      clear hK K A2
      refine rdy 7 (fun K hK => ?_)
      go_simp
      have A2 := (Below.refl w1.heap.size w1).alloc (Nat.le_refl _) (Obj.cells #[.int .i64 0, .int .i64 0] 53)
      refine hK.out _ _ (fun_held (blk_on R1.out A2) (L1.out.on A2)) (fun _ => ?_)
      clear hK K
      refine wpAnyH_done (by kernel_rfl) ?_ _
      have HF6 := hid (blk_new w1 53 #[.int .i64 0, .int .i64 0])
      have HL6 := hid (L1.out.on A2)
      have HK6 := hid ((HKI.out.trans KD.out (fun i hi e => by omega)).trans (Keep.of (S := RT r (.slice fa fs.length fc)) A2) (fun _ _ h => h))
      have HR6 := hid (RS1.out.on A2)
      have HZ6 := hid (show w.heap.size + 1 + 1 + 1 + 1 ≤ w1.heap.size ∧ w1.heap.size < (w1.alloc (Obj.cells #[.int .i64 0, .int .i64 0] 53)).heap.size from ⟨by have := KD.out.size; have := HZI.out; omega, by simp⟩)
      clear A2 KD R1 L1 hHeld RS1
      generalize w1.alloc (Obj.cells #[.int .i64 0, .int .i64 0] 53) = W6 at *
      generalize w1.heap.size = gf at *
      rotate_left 1
      have HKK := hid hK
      clear hK
      go_simp
      have A4 := ((Below.refl wM.heap.size wM).alloc (Nat.le_refl _) (Obj.cells #[.int .i64 0, .int .i64 0] 53)).drew
      have G4 : Blk wM.heap.size 53 #[.int .i64 0, .int .i64 0] (wM.alloc (Obj.cells #[.int .i64 0, .int .i64 0] 53)).drew := blk_new wM 53 #[.int .i64 0, .int .i64 0]
      refine HKK.out.out _ _ (fun_held (blk_on HRI.out.blk A4) (HLI.out.on A4)) (fun _ => ?_)
      clear HKK K
      refine rdy 5 (fun K hK => ?_)
      have HKK := hid hK
      clear hK
      go_simp
      have RI2 := HRI.out.on A4
      have HC := params_calls (.mk 8 o n s ns ks p) (.slice na ns.length nc) (.slice ka ks.length kc) (wM.alloc (Obj.cells #[.int .i64 0, .int .i64 0] 53)).drew RI2.nm (by simp) (by omega) (ndIn_on (HBI.out.trans (A4.mono (by have := HZI.out; omega))) _ _ _ HN.out) (by have := HZI.out; simp; omega) hsm
      simp only [Nd.kind, Nd.op, Nd.num, Nd.str, Nd.pl, Nd.names, Nd.kids] at HC
      rw [hpp] at HC
      unfold fltV Decl at HC
      simp only at HC
      refine HC.mono ?_
      clear HC
      rintro e1 w1 ⟨rfl, d1, k1⟩
      have hzI := HZI.out
      have hzA := A4.size
      have R1 := hid (blk_keep RI2.blk k1 (by omega))
      have L1 := hid ((HLI.out.on A4).keep k1 (fun b h1 h2 => by omega))
      have G1 := blk_keep G4 k1 (by omega)
      have K1 := hid ((HKI.out.trans (Keep.of (S := RT r (.slice fa fs.length fc)) A4) (fun _ _ h => h)).trans k1 (fun i hi e => by omega))
      have RS1 := hid (RI2.named k1 d1 (by omega) (fun b hb => by have := hokw b hb; omega))
      have hz1 := k1.size
      have hzA2 : (wM.alloc (Obj.cells #[.int .i64 0, .int .i64 0] 53)).drew.heap.size = wM.heap.size + 1 := by simp
      have za0 : w1.cell? ⟨wM.heap.size, 0, none⟩ = some (.int .i64 0) := by rw [blk_cell G1]; rfl
      have za1 : w1.cell? ⟨wM.heap.size, 1, none⟩ = some (.int .i64 0) := by rw [blk_cell G1]; rfl
      have fa0 : w1.frozen? ⟨wM.heap.size, 0, none⟩ = false := blk_free G1 0
      have fa1 : w1.frozen? ⟨wM.heap.size, 1, none⟩ = false := blk_free G1 1
      refine HKK.out.out _ _ (fun_held R1.out L1.out) (fun _ => ?_)
      clear HKK K k1 d1
      refine rdy 7 (fun K hK => ?_)
      go_simp
      have KS := (Keep.set (S := fun b => b = wM.heap.size) rfl w1 0 (.int .i64 0)).trans (Keep.set (S := fun b => b = wM.heap.size) rfl (w1.setCell ⟨wM.heap.size, 0, none⟩ (.int .i64 0)) 1 (.int .i64 0)) (fun _ _ h => h)
      have HF6 := hid (show Blk wM.heap.size 53 #[.int .i64 0, .int .i64 0] ((w1.setCell ⟨wM.heap.size, 0, none⟩ (.int .i64 0)).setCell ⟨wM.heap.size, 1, none⟩ (.int .i64 0)) by simpa using blk_set (blk_set G1 0 (.int .i64 0)) 1 (.int .i64 0))
      have hrI := blk_lt HRI.out.blk
      have R6 := blk_keep R1.out KS (by omega)
      have HL6 := hid (L1.out.keep KS (fun b h1 h2 => by omega))
      refine hK.out _ _ (fun_held R6 HL6.out) (fun _ => ?_)
      clear hK K
      refine wpAnyH_done (by kernel_rfl) ?_ _
      have HK6 := hid (K1.out.trans KS (fun i hi e => by omega))
      have HR6 := hid (RS1.out.keep KS (by omega) (by omega) (fun b e => by cases e; omega) (fun g e => by obtain ⟨cur, hc⟩ := fnsS_lt HRI.out.fn e; have := blk_lt hc; omega) (fun b hb => by have := hokw b hb; omega))
      have hex : ∃ g, Hid (Blk g 53 #[.int .i64 0, .int .i64 0] ((w1.setCell ⟨wM.heap.size, 0, none⟩ (.int .i64 0)).setCell ⟨wM.heap.size, 1, none⟩ (.int .i64 0))) ∧ Hid (w.heap.size + 1 + 1 + 1 + 1 ≤ g ∧ g < ((w1.setCell ⟨wM.heap.size, 0, none⟩ (.int .i64 0)).setCell ⟨wM.heap.size, 1, none⟩ (.int .i64 0)).heap.size) ∧ g = wM.heap.size := ⟨_, HF6, hid ⟨by omega, by have := KS.size; omega⟩, rfl⟩
      clear HF6 KS R6 K1 G1 G4 A4 RI2 za0 za1 fa0 fa1 hz1 hzA hzA2 hzI R1 L1 hHeld hrI RS1
      generalize (w1.setCell ⟨wM.heap.size, 0, none⟩ (.int .i64 0)).setCell ⟨wM.heap.size, 1, none⟩ (.int .i64 0) = W6 at *
      obtain ⟨gf, HF6, HZ6, hgf⟩ := hex
      rw [← hgf]
      clear hgf
      rotate_left 1
      all_goals
        have u0 : W6.cell? ⟨gf, 0, none⟩ = some (.int .i64 0) := by rw [blk_cell HF6.out]; rfl
        have u1 : W6.cell? ⟨gf, 1, none⟩ = some (.int .i64 0) := by rw [blk_cell HF6.out]; rfl
        go_wp2_with fail
        clear u0 u1
        refine (found_calls 0 0 W6).mono ?_
        rintro e9 wI ⟨rfl, b9⟩
        replace HRI := hid (HR6.out.on b9)
        replace HLI := hid (HL6.out.on b9)
        replace HKI := hid (HK6.out.trans (Keep.of (S := RT r (.slice fa fs.length fc)) b9) (fun _ _ h => h))
        replace HZI := hid (show w.heap.size + 1 + 1 + 1 + 1 ≤ wI.heap.size by have := b9.size; have := HZ6.out; omega)
        clear HR6 HL6 HK6 HZ6 HF6 HBI b9 hgm hokw
        go_wp2_with fail
        cases hll : letL ks own1 with
        | bad fp fe =>
          have HP := hid (show resN gl (.mk 8 o n s ns ks p) lo fs = .bad fp fe by rw [resN, if_pos rfl, if_neg hfull, hpp, Rz.bind_ok, hll]; rfl)
          have he : fe ≠ 0 := letL_bad ks hll
          have hgm : gm < w.heap.size := nmAt_lt HRs.out.gs
          have hokw : ∀ b, ok b → b < w.heap.size := fun b hb => (HRs.out.lt b hb).1
          have HBI := hid (HKI.out.below hB (rt_low HRs.out))
          refine wp_region_held_drew (S := (fun a => a.cell? ⟨r, 1, none⟩ = some (.map (some gn)) ∧ a.cell? ⟨r, 2, none⟩ = some (.slice fa fs.length fc) ∧ a.cell? ⟨w.heap.size, 0, none⟩ = some (.int .i64 8) ∧ a.cell? ⟨w.heap.size, 1, none⟩ = some (.int .i64 o) ∧ a.cell? ⟨w.heap.size, 2, none⟩ = some (.int .i64 n) ∧ a.cell? ⟨w.heap.size, 3, none⟩ = some (.string s) ∧ a.cell? ⟨w.heap.size, 4, none⟩ = some (.slice na ns.length nc) ∧ a.cell? ⟨w.heap.size, 5, none⟩ = some (.slice ka ks.length kc) ∧ a.cell? ⟨w.heap.size, 6, none⟩ = some (.int .i64 p))) (by kernel_rfl) (fun_held (blk_on HRI.out.blk (Below.refl _ _).drew) (HLI.out.on (Below.refl _ _).drew)) (fun hHeld => ?_)
          refine tkk 0 ?_
          refine tkk 1 ?_
          refine tkk 2 ?_
          refine tkk 3 ?_
          refine tkk 4 ?_
          refine tkk 5 ?_
          refine wpAnyH_ready (rs := [6, 7]) (by kernel_rfl) (by simp) ?_
          refine AllReadyH.cons rfl (fun K hK => ?_) (AllReadyH.cons rfl (fun K hK => ?_) AllReadyH.nil)
          have HKK := hid hK
          clear hK
          go_simp
          have RI2 := HRI.out.on (Below.refl _ _).drew
          have HC := lets_calls ks (by rw [countN] at hc; omega) gn B _ (.slice ka ks.length kc) wI.drew (hid RI2.nm) hown1 (by omega) (hid (ndIn_mk.1 (ndIn_on HBI.out.drew _ _ _ HN.out)).2) (by have := HZI.out; simp; omega) hsk (by have := countL_len ks; rw [countN] at hc; omega)
          rw [hll] at HC
          unfold fltV Decl at HC
          simp only at HC
          refine HC.mono ?_
          clear HC
          rintro e1 w1 ⟨rfl, d1, l1, k1⟩
          have KD := hid ((Keep.drew (fun b => b = gn) wI).trans k1 (fun _ _ h => h))
          have R1 := hid (blk_keep HRI.out.blk KD.out (by omega))
          have L1 := hid (HLI.out.keep KD.out (fun b h1 h2 => by omega))
          have HBD1 := hid (((HRI.out.bad HKI.out).on (Below.refl _ _).drew).pass k1 hrw (fun b e => ⟨by omega, fun cs hcs => nm_ne_blk RI2.nm hcs (show gn = b by omega)⟩))
          refine HKK.out.out _ _ (fun_held R1.out L1.out) (fun _ => ?_)
          clear HKK K k1 d1 RI2
          refine rdy 7 (fun K hK => ?_)
          go_simp
          have A2 := (Below.refl w1.heap.size w1).alloc (Nat.le_refl _) (Obj.cells #[.int .i64 0, .int .i64 0] 53)
          refine hK.out _ _ (fun_held (blk_on R1.out A2) (L1.out.on A2)) (fun _ => ?_)
          clear hK K A2
          refine rdy 8 (fun K hK => ?_)
          go_simp
          have A2 := (Below.refl w1.heap.size w1).alloc (Nat.le_refl _) (Obj.cells #[.int .i64 fp, .int .i64 fe] 53)
          refine hK.out _ _ (fun_held (blk_on R1.out A2) (L1.out.on A2)) (fun _ => ?_)
          clear hK K
          refine wpAnyH_done (by kernel_rfl) ?_ _
          have HF6 := hid (blk_new w1 53 #[.int .i64 fp, .int .i64 fe])
          have HL6 := hid (L1.out.on A2)
          have HK6 := hid ((HKI.out.trans KD.out (fun i hi e => by omega)).trans (Keep.of (S := RT r (.slice fa fs.length fc)) A2) (fun _ _ h => h))
          have HBD6 := hid (HBD1.out.on A2)
          clear HBD1
          have HZ6 := hid (show w.heap.size + 1 + 1 + 1 + 1 ≤ w1.heap.size ∧ w1.heap.size < (w1.alloc (Obj.cells #[.int .i64 fp, .int .i64 fe] 53)).heap.size from ⟨by have := KD.out.size; have := HZI.out; omega, by simp⟩)
          clear A2 KD R1 L1 hHeld
          generalize w1.alloc (Obj.cells #[.int .i64 fp, .int .i64 fe] 53) = W6 at *
          generalize w1.heap.size = gf at *
          rotate_left 1
          have HKK := hid hK
          clear hK
          go_simp
          have A4 := ((Below.refl wI.heap.size wI).alloc (Nat.le_refl _) (Obj.cells #[.int .i64 0, .int .i64 0] 53)).drew
          have G4 : Blk wI.heap.size 53 #[.int .i64 0, .int .i64 0] (wI.alloc (Obj.cells #[.int .i64 0, .int .i64 0] 53)).drew := blk_new wI 53 #[.int .i64 0, .int .i64 0]
          refine HKK.out.out _ _ (fun_held (blk_on HRI.out.blk A4) (HLI.out.on A4)) (fun _ => ?_)
          clear HKK K
          refine rdy 6 (fun K hK => ?_)
          have HKK := hid hK
          clear hK
          go_simp
          have RI2 := HRI.out.on A4
          have HC := lets_calls ks (by rw [countN] at hc; omega) gn B _ (.slice ka ks.length kc) (wI.alloc (Obj.cells #[.int .i64 0, .int .i64 0] 53)).drew (hid RI2.nm) hown1 (by omega) (hid (ndIn_mk.1 (ndIn_on (HBI.out.trans (A4.mono (by have := HZI.out; omega))) _ _ _ HN.out)).2) (by have := HZI.out; simp; omega) hsk (by have := countL_len ks; rw [countN] at hc; omega)
          rw [hll] at HC
          unfold fltV Decl at HC
          simp only at HC
          refine HC.mono ?_
          clear HC
          rintro e1 w1 ⟨rfl, d1, l1, k1⟩
          have hzI := HZI.out
          have hzA := A4.size
          have R1 := hid (blk_keep RI2.blk k1 (by omega))
          have L1 := hid ((HLI.out.on A4).keep k1 (fun b h1 h2 => by omega))
          have G1 := blk_keep G4 k1 (by omega)
          have K1 := hid ((HKI.out.trans (Keep.of (S := RT r (.slice fa fs.length fc)) A4) (fun _ _ h => h)).trans k1 (fun i hi e => by omega))
          have HBD1 := hid (((HRI.out.bad HKI.out).on A4).pass k1 hrw (fun b e => ⟨by omega, fun cs hcs => nm_ne_blk RI2.nm hcs (show gn = b by omega)⟩))
          have hz1 := k1.size
          have hzA2 : (wI.alloc (Obj.cells #[.int .i64 0, .int .i64 0] 53)).drew.heap.size = wI.heap.size + 1 := by simp
          have za0 : w1.cell? ⟨wI.heap.size, 0, none⟩ = some (.int .i64 0) := by rw [blk_cell G1]; rfl
          have za1 : w1.cell? ⟨wI.heap.size, 1, none⟩ = some (.int .i64 0) := by rw [blk_cell G1]; rfl
          have fa0 : w1.frozen? ⟨wI.heap.size, 0, none⟩ = false := blk_free G1 0
          have fa1 : w1.frozen? ⟨wI.heap.size, 1, none⟩ = false := blk_free G1 1
          refine HKK.out.out _ _ (fun_held R1.out L1.out) (fun _ => ?_)
          clear HKK K k1 d1
          refine rdy 8 (fun K hK => ?_)
          go_simp
          have KS := (Keep.set (S := fun b => b = wI.heap.size) rfl w1 0 (.int .i64 fp)).trans (Keep.set (S := fun b => b = wI.heap.size) rfl (w1.setCell ⟨wI.heap.size, 0, none⟩ (.int .i64 fp)) 1 (.int .i64 fe)) (fun _ _ h => h)
          have HF6 := hid (show Blk wI.heap.size 53 #[.int .i64 fp, .int .i64 fe] ((w1.setCell ⟨wI.heap.size, 0, none⟩ (.int .i64 fp)).setCell ⟨wI.heap.size, 1, none⟩ (.int .i64 fe)) by simpa using blk_set (blk_set G1 0 (.int .i64 fp)) 1 (.int .i64 fe))
          have hrI := blk_lt HRI.out.blk
          have R6 := blk_keep R1.out KS (by omega)
          have HL6 := hid (L1.out.keep KS (fun b h1 h2 => by omega))
          refine hK.out _ _ (fun_held R6 HL6.out) (fun _ => ?_)
          clear hK K
          refine wpAnyH_done (by kernel_rfl) ?_ _
          have HK6 := hid (K1.out.trans KS (fun i hi e => by omega))
          have HBD6 := hid (HBD1.out.pass KS hrw (fun b e => ⟨by omega, by rw [show b = wI.heap.size from e]; exact blk_not G1 (by decide)⟩))
          clear HBD1
          have hex : ∃ g, Hid (Blk g 53 #[.int .i64 fp, .int .i64 fe] ((w1.setCell ⟨wI.heap.size, 0, none⟩ (.int .i64 fp)).setCell ⟨wI.heap.size, 1, none⟩ (.int .i64 fe))) ∧ Hid (w.heap.size + 1 + 1 + 1 + 1 ≤ g ∧ g < ((w1.setCell ⟨wI.heap.size, 0, none⟩ (.int .i64 fp)).setCell ⟨wI.heap.size, 1, none⟩ (.int .i64 fe)).heap.size) ∧ g = wI.heap.size := ⟨_, HF6, hid ⟨by omega, by have := KS.size; omega⟩, rfl⟩
          clear HF6 KS R6 K1 G1 G4 A4 RI2 za0 za1 fa0 fa1 hz1 hzA hzA2 hzI R1 L1 hHeld hrI
          generalize (w1.setCell ⟨wI.heap.size, 0, none⟩ (.int .i64 fp)).setCell ⟨wI.heap.size, 1, none⟩ (.int .i64 fe) = W6 at *
          obtain ⟨gf, HF6, HZ6, hgf⟩ := hex
          rw [← hgf]
          clear hgf
          rotate_left 1
          all_goals
            have hne3 : gf ≠ w.heap.size + 1 := by have := HZ6.out; omega
            have hne4 : gf ≠ w.heap.size + 1 + 1 := by have := HZ6.out; omega
            have hne5 : w.heap.size + 1 ≠ gf := Ne.symm hne3
            have hne6 : w.heap.size + 1 + 1 ≠ gf := Ne.symm hne4
            have u0 : W6.cell? ⟨gf, 0, none⟩ = some (.int .i64 fp) := by rw [blk_cell HF6.out]; rfl
            have u1 : W6.cell? ⟨gf, 1, none⟩ = some (.int .i64 fe) := by rw [blk_cell HF6.out]; rfl
            go_wp2_with fail
            clear u0 u1
            refine (found_calls fp fe W6).mono ?_
            rintro e9 w9 ⟨rfl, b9⟩
            have hb9 : (fe != 0) = true := by rw [bne_iff_ne]; exact he
            have L9 := hid (HL6.out.on b9)
            have GF9 := hid (blk_on HF6.out b9)
            have K9 := hid (HBD6.out.on b9)
            have t0 : w9.cell? ⟨gf, 0, none⟩ = some (.int .i64 fp) := by rw [blk_cell GF9.out]; rfl
            have t1 : w9.cell? ⟨gf, 1, none⟩ = some (.int .i64 fe) := by rw [blk_cell GF9.out]; rfl
            have za0 : w9.cell? ⟨w.heap.size + 1, 0, none⟩ = some (.int .i64 0) := by rw [blk_cell L9.out.out]; rfl
            have za1 : w9.cell? ⟨w.heap.size + 1, 1, none⟩ = some (.int .i64 0) := by rw [blk_cell L9.out.out]; rfl
            have za2 : w9.cell? ⟨w.heap.size + 1, 2, none⟩ = some (.int .i64 0) := by rw [blk_cell L9.out.out]; rfl
            have za3 : w9.cell? ⟨w.heap.size + 1, 3, none⟩ = some (.string ⟨#[]⟩) := by rw [blk_cell L9.out.out]; rfl
            have za4 : w9.cell? ⟨w.heap.size + 1, 4, none⟩ = some (.slice none 0 0) := by rw [blk_cell L9.out.out]; rfl
            have za5 : w9.cell? ⟨w.heap.size + 1, 5, none⟩ = some (.slice none 0 0) := by rw [blk_cell L9.out.out]; rfl
            have za6 : w9.cell? ⟨w.heap.size + 1, 6, none⟩ = some (.int .i64 0) := by rw [blk_cell L9.out.out]; rfl
            have fa0 : w9.frozen? ⟨w.heap.size + 1, 0, none⟩ = false := blk_free L9.out.out 0
            have fa1 : w9.frozen? ⟨w.heap.size + 1, 1, none⟩ = false := blk_free L9.out.out 1
            have fa2 : w9.frozen? ⟨w.heap.size + 1, 2, none⟩ = false := blk_free L9.out.out 2
            have fa3 : w9.frozen? ⟨w.heap.size + 1, 3, none⟩ = false := blk_free L9.out.out 3
            have fa4 : w9.frozen? ⟨w.heap.size + 1, 4, none⟩ = false := blk_free L9.out.out 4
            have fa5 : w9.frozen? ⟨w.heap.size + 1, 5, none⟩ = false := blk_free L9.out.out 5
            have fa6 : w9.frozen? ⟨w.heap.size + 1, 6, none⟩ = false := blk_free L9.out.out 6
            have zb0 : w9.cell? ⟨w.heap.size + 1 + 1, 0, none⟩ = some (.int .i64 0) := by rw [blk_cell L9.out.flt]; rfl
            have zb1 : w9.cell? ⟨w.heap.size + 1 + 1, 1, none⟩ = some (.int .i64 0) := by rw [blk_cell L9.out.flt]; rfl
            have fb0 : w9.frozen? ⟨w.heap.size + 1 + 1, 0, none⟩ = false := blk_free L9.out.flt 0
            have fb1 : w9.frozen? ⟨w.heap.size + 1 + 1, 1, none⟩ = false := blk_free L9.out.flt 1
            clear b9
            go_wp2_with fail
            go_region
            go_wp2_with fail
            refine bodyPost_ret (ret_n2 (g := w.heap.size + 1) (g' := w.heap.size + 1 + 1) (v0 := (.int .i64 0)) (v1 := (.int .i64 0)) (v2 := (.int .i64 0)) (v3 := (.string ⟨#[]⟩)) (v4 := (.slice none 0 0)) (v5 := (.slice none 0 0)) (v6 := (.int .i64 0)) (x := (.int .i64 fp)) (y := (.int .i64 fe)) rfl rfl rfl ⟨by go_simp, by go_simp, by go_simp, by go_simp, by go_simp, by go_simp, by go_simp⟩ ⟨by go_simp, by go_simp⟩) rfl ?_
            rw [HP.out]
            refine ⟨⟨0, 0, rfl⟩, ?_⟩
            have P1 := put72 (w := w9) (g := w.heap.size + 1) (f := w.heap.size + 1 + 1) (by omega) L9.out.out L9.out.flt (.int .i64 0) (.int .i64 0) (.int .i64 0) (.string ⟨#[]⟩) (.slice none 0 0) (.slice none 0 0) (.int .i64 0) (.int .i64 fp) (.int .i64 fe)
            exact (K9.out.put2 hrw P1.2.2 L9.out.out L9.out.flt (by omega) (by omega)).on (Below.refl _ _).drew
        | ok own =>
          have hgm : gm < w.heap.size := nmAt_lt HRs.out.gs
          have hokw : ∀ b, ok b → b < w.heap.size := fun b hb => (HRs.out.lt b hb).1
          have HBI := hid (HKI.out.below hB (rt_low HRs.out))
          refine wp_region_held_drew (S := (fun a => a.cell? ⟨r, 1, none⟩ = some (.map (some gn)) ∧ a.cell? ⟨r, 2, none⟩ = some (.slice fa fs.length fc) ∧ a.cell? ⟨w.heap.size, 0, none⟩ = some (.int .i64 8) ∧ a.cell? ⟨w.heap.size, 1, none⟩ = some (.int .i64 o) ∧ a.cell? ⟨w.heap.size, 2, none⟩ = some (.int .i64 n) ∧ a.cell? ⟨w.heap.size, 3, none⟩ = some (.string s) ∧ a.cell? ⟨w.heap.size, 4, none⟩ = some (.slice na ns.length nc) ∧ a.cell? ⟨w.heap.size, 5, none⟩ = some (.slice ka ks.length kc) ∧ a.cell? ⟨w.heap.size, 6, none⟩ = some (.int .i64 p))) (by kernel_rfl) (fun_held (blk_on HRI.out.blk (Below.refl _ _).drew) (HLI.out.on (Below.refl _ _).drew)) (fun hHeld => ?_)
          refine tkk 0 ?_
          refine tkk 1 ?_
          refine tkk 2 ?_
          refine tkk 3 ?_
          refine tkk 4 ?_
          refine tkk 5 ?_
          refine wpAnyH_ready (rs := [6, 7]) (by kernel_rfl) (by simp) ?_
          refine AllReadyH.cons rfl (fun K hK => ?_) (AllReadyH.cons rfl (fun K hK => ?_) AllReadyH.nil)
          have HKK := hid hK
          clear hK
          go_simp
          have RI2 := HRI.out.on (Below.refl _ _).drew
          have HC := lets_calls ks (by rw [countN] at hc; omega) gn B _ (.slice ka ks.length kc) wI.drew (hid RI2.nm) hown1 (by omega) (hid (ndIn_mk.1 (ndIn_on HBI.out.drew _ _ _ HN.out)).2) (by have := HZI.out; simp; omega) hsk (by have := countL_len ks; rw [countN] at hc; omega)
          rw [hll] at HC
          unfold fltV Decl at HC
          simp only at HC
          refine HC.mono ?_
          clear HC
          rintro e1 w1 ⟨rfl, d1, l1, k1⟩
          have hown : own.length ≤ 24 := l1 own rfl
          clear l1
          have KD := hid ((Keep.drew (fun b => b = gn) wI).trans k1 (fun _ _ h => h))
          have R1 := hid (blk_keep HRI.out.blk KD.out (by omega))
          have L1 := hid (HLI.out.keep KD.out (fun b h1 h2 => by omega))
          have RS1 := hid (RI2.named k1 d1 (by omega) (fun b hb => by have := hokw b hb; omega))
          refine HKK.out.out _ _ (fun_held R1.out L1.out) (fun _ => ?_)
          clear HKK K k1 d1 RI2
          refine rdy 7 (fun K hK => ?_)
          go_simp
          have A2 := (Below.refl w1.heap.size w1).alloc (Nat.le_refl _) (Obj.cells #[.int .i64 0, .int .i64 0] 53)
          refine hK.out _ _ (fun_held (blk_on R1.out A2) (L1.out.on A2)) (fun _ => ?_)
          clear hK K A2
          refine rdy 8 (fun K hK => ?_)
          go_simp
          have A2 := (Below.refl w1.heap.size w1).alloc (Nat.le_refl _) (Obj.cells #[.int .i64 0, .int .i64 0] 53)
          refine hK.out _ _ (fun_held (blk_on R1.out A2) (L1.out.on A2)) (fun _ => ?_)
          clear hK K
          refine wpAnyH_done (by kernel_rfl) ?_ _
          have HF6 := hid (blk_new w1 53 #[.int .i64 0, .int .i64 0])
          have HL6 := hid (L1.out.on A2)
          have HK6 := hid ((HKI.out.trans KD.out (fun i hi e => by omega)).trans (Keep.of (S := RT r (.slice fa fs.length fc)) A2) (fun _ _ h => h))
          have HR6 := hid (RS1.out.on A2)
          have HZ6 := hid (show w.heap.size + 1 + 1 + 1 + 1 ≤ w1.heap.size ∧ w1.heap.size < (w1.alloc (Obj.cells #[.int .i64 0, .int .i64 0] 53)).heap.size from ⟨by have := KD.out.size; have := HZI.out; omega, by simp⟩)
          clear A2 KD R1 L1 hHeld RS1
          generalize w1.alloc (Obj.cells #[.int .i64 0, .int .i64 0] 53) = W6 at *
          generalize w1.heap.size = gf at *
          rotate_left 1
          have HKK := hid hK
          clear hK
          go_simp
          have A4 := ((Below.refl wI.heap.size wI).alloc (Nat.le_refl _) (Obj.cells #[.int .i64 0, .int .i64 0] 53)).drew
          have G4 : Blk wI.heap.size 53 #[.int .i64 0, .int .i64 0] (wI.alloc (Obj.cells #[.int .i64 0, .int .i64 0] 53)).drew := blk_new wI 53 #[.int .i64 0, .int .i64 0]
          refine HKK.out.out _ _ (fun_held (blk_on HRI.out.blk A4) (HLI.out.on A4)) (fun _ => ?_)
          clear HKK K
          refine rdy 6 (fun K hK => ?_)
          have HKK := hid hK
          clear hK
          go_simp
          have RI2 := HRI.out.on A4
          have HC := lets_calls ks (by rw [countN] at hc; omega) gn B _ (.slice ka ks.length kc) (wI.alloc (Obj.cells #[.int .i64 0, .int .i64 0] 53)).drew (hid RI2.nm) hown1 (by omega) (hid (ndIn_mk.1 (ndIn_on (HBI.out.trans (A4.mono (by have := HZI.out; omega))) _ _ _ HN.out)).2) (by have := HZI.out; simp; omega) hsk (by have := countL_len ks; rw [countN] at hc; omega)
          rw [hll] at HC
          unfold fltV Decl at HC
          simp only at HC
          refine HC.mono ?_
          clear HC
          rintro e1 w1 ⟨rfl, d1, l1, k1⟩
          have hown : own.length ≤ 24 := l1 own rfl
          clear l1
          have hzI := HZI.out
          have hzA := A4.size
          have R1 := hid (blk_keep RI2.blk k1 (by omega))
          have L1 := hid ((HLI.out.on A4).keep k1 (fun b h1 h2 => by omega))
          have G1 := blk_keep G4 k1 (by omega)
          have K1 := hid ((HKI.out.trans (Keep.of (S := RT r (.slice fa fs.length fc)) A4) (fun _ _ h => h)).trans k1 (fun i hi e => by omega))
          have RS1 := hid (RI2.named k1 d1 (by omega) (fun b hb => by have := hokw b hb; omega))
          have hz1 := k1.size
          have hzA2 : (wI.alloc (Obj.cells #[.int .i64 0, .int .i64 0] 53)).drew.heap.size = wI.heap.size + 1 := by simp
          have za0 : w1.cell? ⟨wI.heap.size, 0, none⟩ = some (.int .i64 0) := by rw [blk_cell G1]; rfl
          have za1 : w1.cell? ⟨wI.heap.size, 1, none⟩ = some (.int .i64 0) := by rw [blk_cell G1]; rfl
          have fa0 : w1.frozen? ⟨wI.heap.size, 0, none⟩ = false := blk_free G1 0
          have fa1 : w1.frozen? ⟨wI.heap.size, 1, none⟩ = false := blk_free G1 1
          refine HKK.out.out _ _ (fun_held R1.out L1.out) (fun _ => ?_)
          clear HKK K k1 d1
          refine rdy 8 (fun K hK => ?_)
          go_simp
          have KS := (Keep.set (S := fun b => b = wI.heap.size) rfl w1 0 (.int .i64 0)).trans (Keep.set (S := fun b => b = wI.heap.size) rfl (w1.setCell ⟨wI.heap.size, 0, none⟩ (.int .i64 0)) 1 (.int .i64 0)) (fun _ _ h => h)
          have HF6 := hid (show Blk wI.heap.size 53 #[.int .i64 0, .int .i64 0] ((w1.setCell ⟨wI.heap.size, 0, none⟩ (.int .i64 0)).setCell ⟨wI.heap.size, 1, none⟩ (.int .i64 0)) by simpa using blk_set (blk_set G1 0 (.int .i64 0)) 1 (.int .i64 0))
          have hrI := blk_lt HRI.out.blk
          have R6 := blk_keep R1.out KS (by omega)
          have HL6 := hid (L1.out.keep KS (fun b h1 h2 => by omega))
          refine hK.out _ _ (fun_held R6 HL6.out) (fun _ => ?_)
          clear hK K
          refine wpAnyH_done (by kernel_rfl) ?_ _
          have HK6 := hid (K1.out.trans KS (fun i hi e => by omega))
          have HR6 := hid (RS1.out.keep KS (by omega) (by omega) (fun b e => by cases e; omega) (fun g e => by obtain ⟨cur, hc⟩ := fnsS_lt HRI.out.fn e; have := blk_lt hc; omega) (fun b hb => by have := hokw b hb; omega))
          have hex : ∃ g, Hid (Blk g 53 #[.int .i64 0, .int .i64 0] ((w1.setCell ⟨wI.heap.size, 0, none⟩ (.int .i64 0)).setCell ⟨wI.heap.size, 1, none⟩ (.int .i64 0))) ∧ Hid (w.heap.size + 1 + 1 + 1 + 1 ≤ g ∧ g < ((w1.setCell ⟨wI.heap.size, 0, none⟩ (.int .i64 0)).setCell ⟨wI.heap.size, 1, none⟩ (.int .i64 0)).heap.size) ∧ g = wI.heap.size := ⟨_, HF6, hid ⟨by omega, by have := KS.size; omega⟩, rfl⟩
          clear HF6 KS R6 K1 G1 G4 A4 RI2 za0 za1 fa0 fa1 hz1 hzA hzA2 hzI R1 L1 hHeld hrI RS1
          generalize (w1.setCell ⟨wI.heap.size, 0, none⟩ (.int .i64 0)).setCell ⟨wI.heap.size, 1, none⟩ (.int .i64 0) = W6 at *
          obtain ⟨gf, HF6, HZ6, hgf⟩ := hex
          rw [← hgf]
          clear hgf
          rotate_left 1
          all_goals
            have u0 : W6.cell? ⟨gf, 0, none⟩ = some (.int .i64 0) := by rw [blk_cell HF6.out]; rfl
            have u1 : W6.cell? ⟨gf, 1, none⟩ = some (.int .i64 0) := by rw [blk_cell HF6.out]; rfl
            go_wp2_with fail
            clear u0 u1
            refine (found_calls 0 0 W6).mono ?_
            rintro e9 wJ ⟨rfl, b9⟩
            replace HRI := hid (HR6.out.on b9)
            replace HLI := hid (HL6.out.on b9)
            replace HKI := hid (HK6.out.trans (Keep.of (S := RT r (.slice fa fs.length fc)) b9) (fun _ _ h => h))
            replace HZI := hid (show w.heap.size + 1 + 1 + 1 + 1 ≤ wJ.heap.size by have := b9.size; have := HZ6.out; omega)
            have HPP := hid (show resN gl (.mk 8 o n s ns ks p) lo fs = ((resL gl ks own (fs ++ [(ns.length, own.length, [])])).bind fun q => .ok (.mk 20 0 fs.length ⟨#[]⟩ [] [] 0, q.2.set fs.length (ns.length, own.length, q.1))) by rw [resN, if_pos rfl, if_neg hfull, hpp, Rz.bind_ok, hll, Rz.bind_ok])
            clear HR6 HL6 HK6 HZ6 HF6 HBI b9 hgm hokw hll hpp
            go_wp2_with fail
            obtain ⟨cs, hrow, hfr⟩ := HRI.out.fn
            have HFR := hid hfr
            obtain ⟨i0, hi, hz0, hz1, hz2⟩ := infoF
            have hfl : fs.length ≤ 31 := by omega
            have BL := hid (((Below.refl wJ.heap.size wJ).alloc (Nat.le_refl _) (Obj.cells #[.int .i64 (ns.length : Int), .int .i64 (own.length : Int), .slice none 0 0] 45)).drew)
            have RW := hid (show World.ownsRow (wJ.alloc (Obj.cells #[.int .i64 (ns.length : Int), .int .i64 (own.length : Int), .slice none 0 0] 45)).drew 0 45 3 (.slice fa fs.length fc) fs.length cs from row_keep hrow (fun g hg => BL.out.block g (by obtain ⟨cur, hc⟩ := row_lt hrow hg; exact blk_lt hc)))
            have NW := hid (World.news_of_block (w := (wJ.alloc (Obj.cells #[.int .i64 (ns.length : Int), .int .i64 (own.length : Int), .slice none 0 0] 45)).drew) (show (wJ.alloc (Obj.cells #[.int .i64 (ns.length : Int), .int .i64 (own.length : Int), .slice none 0 0] 45)).drew.heap[wJ.heap.size]? = _ from heap_alloc_new wJ (Obj.cells #[.int .i64 (ns.length : Int), .int .i64 (own.length : Int), .slice none 0 0] 45)))
            have c2 : wJ.cell? ⟨r, 2, none⟩ = some (.slice fa fs.length fc) := by rw [blk_cell HRI.out.blk]; rfl
            have d2 : (wJ.alloc (Obj.cells #[.int .i64 (ns.length : Int), .int .i64 (own.length : Int), .slice none 0 0] 45)).cell? ⟨r, 2, none⟩ = some (.slice fa fs.length fc) := (((Below.refl wJ.heap.size wJ).alloc (Nat.le_refl _) (Obj.cells #[.int .i64 (ns.length : Int), .int .i64 (own.length : Int), .slice none 0 0] 45)).cell (p := ⟨r, 2, none⟩) (blk_lt HRI.out.blk)).trans c2
            have HS0 : Hid ((fun a => a.cell? ⟨r, 1, none⟩ = some (.map (some gn)) ∧ a.cell? ⟨w.heap.size, 4, none⟩ = some (.slice na ns.length nc) ∧ NmAt gn own a) wJ) := hid ⟨by rw [blk_cell HRI.out.blk]; rfl, HLI.out.cells.2.2.2.2.1, HRI.out.nm⟩
            have HS1 : Hid ((fun a => a.cell? ⟨r, 1, none⟩ = some (.map (some gn)) ∧ a.cell? ⟨w.heap.size, 4, none⟩ = some (.slice na ns.length nc) ∧ NmAt gn own a) (wJ.alloc (Obj.cells #[.int .i64 (ns.length : Int), .int .i64 (own.length : Int), .slice none 0 0] 45)).drew) := hid ⟨by rw [blk_cell (blk_on HRI.out.blk BL.out)]; rfl, (HLI.out.on BL.out).cells.2.2.2.2.1, (HRI.out.on BL.out).nm⟩
            clear hrow hfr
            refine wp_region_held_drew (S := (fun a => a.cell? ⟨r, 1, none⟩ = some (.map (some gn)) ∧ a.cell? ⟨w.heap.size, 4, none⟩ = some (.slice na ns.length nc) ∧ NmAt gn own a)) (by kernel_rfl) ⟨HS0.out.1, HS0.out.2.1, nmAt_keep HS0.out.2.2 rfl⟩ (fun hHeld => ?_)
            refine tkk 0 ?_
            refine tkk 1 ?_
            refine tkk 2 ?_
            refine tkk 3 ?_
            refine tkk 5 ?_
            refine tkk 6 ?_
            refine tkk 7 ?_
            refine tkk 8 ?_
            refine tkk 9 ?_
            refine tkk 10 ?_
            refine tkk 11 ?_
            refine tk 12 (v := ?_) ?_ ?_
            rotate_left 1
            · (intro a hSw; refine yield_nlen (mo := .tmp 63) ?_ ?_ hSw.2.2 <;> rfl)
            refine tkk 13 ?_
            refine wpAnyH_ready (rs := [4, 14]) (by kernel_rfl) (by simp) ?_
            refine AllReadyH.cons rfl (fun K hK => ?_) (AllReadyH.cons rfl (fun K hK => ?_) AllReadyH.nil)
            go_simp
            refine hK.out _ _ ⟨HS0.out.1, HS0.out.2.1, nmAt_keep HS0.out.2.2 rfl⟩ (fun _ => ?_)
            clear hK K
            refine rdy 14 (fun K hK => ?_)
            go_simp
            refine hK.out _ _ HS1.out (fun _ => ?_)
            clear hK K
            refine rdy 15 (fun K hK => ?_)
            refine step_append_lies _ rfl _ _ 28 rfl 0 45 i0 _ 3 40 underF hi hz0 hz1 hz2 rfl (by decide) (.slice fa fs.length fc) fs.length cs rfl RW.out ⟨wJ.heap.size, 0, none⟩ 1 1 [.int .i64 (ns.length : Int), .int .i64 (own.length : Int), .slice none 0 0] rfl rfl NW.out (by intro u hu; simp only [List.mem_cons, List.not_mem_nil, or_false] at hu; rcases hu with rfl | rfl | rfl <;> rfl) (by decide) (by unfold maxLen; omega) (by omega) (Nat.zero_le _) (wJ.heap.size + 1) (by simp) ?_
            intro g cp w3 hown3 hgrow hat hlt
            have MO := HRI.out.more HFR.out.1 HFR.out.2 BL.out hgrow hown3 (by rcases hat with h | h; exact .inl h; exact .inr (by simp; omega))
            have N3 := nmAt_keep HRI.out.nm (MO.1.block gn (nmAt_lt HRI.out.nm) (fun e => by obtain ⟨cur, hc⟩ := fnsS_lt HRI.out.fn e; exact nm_ne_blk HRI.out.nm hc rfl))
            have L3 := HLI.out.keep MO.1 (fun b h _ e => HNR.out b h (.inr e))
            refine hK.out _ _ ⟨by rw [blk_cell MO.2.1]; rfl, L3.cells.2.2.2.2.1, N3⟩ (fun _ => ?_)
            have q2 : w3.cell? ⟨r, 2, none⟩ = some (.slice fa fs.length fc) := by rw [blk_cell MO.2.1]; rfl
            have q3 : w3.frozen? ⟨r, 2, none⟩ = false := blk_free MO.2.1 2
            clear hK K hown3 hgrow
            simp only [Act.put, List.setIfInBounds_toArray, List.set_cons_zero, List.set_cons_succ, List.getElem_toArray, List.getElem_cons_succ, List.getElem_cons_zero]
            refine tkk 16 ?_
            refine tkk 17 ?_
            refine rdy 18 (fun K hK => ?_)
            go_simp
            have KS := Keep.set (S := fun b => b = r) rfl w3 2 (.slice (some ⟨g, 0, none⟩) (fs.length + 1) cp)
            have NS := nmAt_keep N3 (KS.block gn (nmAt_lt N3) (fun e => nm_ne_blk N3 MO.2.1 e))
            have LS := L3.keep KS (fun b h1 h2 => by omega)
            refine hK.out _ _ ⟨by rw [blk_cell MO.2.2.1.blk]; rfl, LS.cells.2.2.2.2.1, NS⟩ (fun _ => ?_)
            clear hK K q2 q3 N3 NS
            refine wpAnyH_done (by kernel_rfl) ?_ _
            have HR7 := hid MO.2.2.1
            have HL7 := hid LS
            have HK7 := hid (HKI.out.trans MO.2.2.2 (fun _ _ h => h))
            have HZ7 := hid (show w.heap.size + 1 + 1 + 1 + 1 ≤ (w3.setCell ⟨r, 2, none⟩ (.slice (some ⟨g, 0, none⟩) (fs.length + 1) cp)).heap.size by have := HZI.out; have := MO.1.size; have := KS.size; omega)
            have HG7 := hid (show (Value.slice fa fs.length fc).ownBlock = some g ∨ w.heap.size ≤ g by rcases hat with h | h; exact .inl h; exact .inr (by have := HZI.out; omega))
            clear MO LS KS L3 hat hlt hHeld
            generalize w3.setCell ⟨r, 2, none⟩ (.slice (some ⟨g, 0, none⟩) (fs.length + 1) cp) = w7 at *
            rotate_left 1
            go_simp
            refine hK.out _ _ HS1.out (fun _ => ?_)
            clear hK K
            refine rdy 4 (fun K hK => ?_)
            go_simp
            refine hK.out _ _ HS1.out (fun _ => ?_)
            clear hK K
            refine rdy 15 (fun K hK => ?_)
            refine step_append_lies _ rfl _ _ 28 rfl 0 45 i0 _ 3 40 underF hi hz0 hz1 hz2 rfl (by decide) (.slice fa fs.length fc) fs.length cs rfl RW.out ⟨wJ.heap.size, 0, none⟩ 1 1 [.int .i64 (ns.length : Int), .int .i64 (own.length : Int), .slice none 0 0] rfl rfl NW.out (by intro u hu; simp only [List.mem_cons, List.not_mem_nil, or_false] at hu; rcases hu with rfl | rfl | rfl <;> rfl) (by decide) (by unfold maxLen; omega) (by omega) (Nat.zero_le _) (wJ.heap.size + 1) (by simp) ?_
            intro g cp w3 hown3 hgrow hat hlt
            have MO := HRI.out.more HFR.out.1 HFR.out.2 BL.out hgrow hown3 (by rcases hat with h | h; exact .inl h; exact .inr (by simp; omega))
            have N3 := nmAt_keep HRI.out.nm (MO.1.block gn (nmAt_lt HRI.out.nm) (fun e => by obtain ⟨cur, hc⟩ := fnsS_lt HRI.out.fn e; exact nm_ne_blk HRI.out.nm hc rfl))
            have L3 := HLI.out.keep MO.1 (fun b h _ e => HNR.out b h (.inr e))
            refine hK.out _ _ ⟨by rw [blk_cell MO.2.1]; rfl, L3.cells.2.2.2.2.1, N3⟩ (fun _ => ?_)
            have q2 : w3.cell? ⟨r, 2, none⟩ = some (.slice fa fs.length fc) := by rw [blk_cell MO.2.1]; rfl
            have q3 : w3.frozen? ⟨r, 2, none⟩ = false := blk_free MO.2.1 2
            clear hK K hown3 hgrow
            simp only [Act.put, List.setIfInBounds_toArray, List.set_cons_zero, List.set_cons_succ, List.getElem_toArray, List.getElem_cons_succ, List.getElem_cons_zero]
            refine tkk 16 ?_
            refine tkk 17 ?_
            refine rdy 18 (fun K hK => ?_)
            go_simp
            have KS := Keep.set (S := fun b => b = r) rfl w3 2 (.slice (some ⟨g, 0, none⟩) (fs.length + 1) cp)
            have NS := nmAt_keep N3 (KS.block gn (nmAt_lt N3) (fun e => nm_ne_blk N3 MO.2.1 e))
            have LS := L3.keep KS (fun b h1 h2 => by omega)
            refine hK.out _ _ ⟨by rw [blk_cell MO.2.2.1.blk]; rfl, LS.cells.2.2.2.2.1, NS⟩ (fun _ => ?_)
            clear hK K q2 q3 N3 NS
            refine wpAnyH_done (by kernel_rfl) ?_ _
            have HR7 := hid MO.2.2.1
            have HL7 := hid LS
            have HK7 := hid (HKI.out.trans MO.2.2.2 (fun _ _ h => h))
            have HZ7 := hid (show w.heap.size + 1 + 1 + 1 + 1 ≤ (w3.setCell ⟨r, 2, none⟩ (.slice (some ⟨g, 0, none⟩) (fs.length + 1) cp)).heap.size by have := HZI.out; have := MO.1.size; have := KS.size; omega)
            have HG7 := hid (show (Value.slice fa fs.length fc).ownBlock = some g ∨ w.heap.size ≤ g by rcases hat with h | h; exact .inl h; exact .inr (by have := HZI.out; omega))
            clear MO LS KS L3 hat hlt hHeld
            generalize w3.setCell ⟨r, 2, none⟩ (.slice (some ⟨g, 0, none⟩) (fs.length + 1) cp) = w7 at *
            rotate_left 1
            all_goals
              have u5 : w7.cell? ⟨w.heap.size, 5, none⟩ = some (.slice ka ks.length kc) := HL7.out.cells.2.2.2.2.2.1
              go_wp2_with fail
              clear u5
              have HB7 := HK7.out.below hB (rt_low HRs.out)
              have HC := HKids.out B r gm (.map (some gn)) (.slice (some ⟨g, 0, none⟩) (fs.length + 1) cp) gl own (fs ++ [(ns.length, own.length, [])]) ok _ w7 HR7 (hid (kidsIn_on HB7 (ndIn_mk.1 HN.out).2)) (by have := HZ7.out; omega) hsk (by rw [countN] at hc; omega) (by simp; omega)
              refine HC.mono ?_
              clear HC HB7
              intro e3 w8 h3
              generalize hR3 : resL gl ks own (fs ++ [(ns.length, own.length, [])]) = R3 at h3
              cases R3 with
              | bad p3 x3 =>
                unfold KidsOut fltP at h3
                simp only at h3
                obtain ⟨rfl, hbd⟩ := h3
                have HP := hid (HPP.out.trans (by rw [hR3]; rfl : _ = Rz.bad p3 x3))
                have HBD := hid hbd
                obtain ⟨lv8, fv8, L8, cs8, hb8, hl8, hrow8, hat8⟩ := hbd.left
                obtain ⟨g8, c8, rfl⟩ := row_some hrow8 (by simp at hl8; omega)
                have hl8' : (fs.length : Int) < (L8 : Int) := by simp at hl8; omega
                obtain ⟨y8, hy8⟩ : ∃ y, cs8[fs.length * 3 + 2]? = some y := ⟨_, List.getElem?_eq_getElem (by have := hrow8.1; simp at hl8; omega)⟩
                have hA8 := (Below.refl w8.heap.size w8).alloc (Nat.le_refl _) (Obj.cells #[.int .i64 p3, .int .i64 x3] 53)
                have x2 : (w8.alloc (Obj.cells #[.int .i64 p3, .int .i64 x3] 53)).cell? ⟨r, 2, none⟩ = some (.slice (some ⟨g8, 0, none⟩) L8 c8) := by rw [blk_cell (blk_on hb8 hA8)]; rfl
                have x1 : (w8.alloc (Obj.cells #[.int .i64 p3, .int .i64 x3] 53)).cell? ⟨r, 1, none⟩ = some (lv8) := by rw [blk_cell (blk_on hb8 hA8)]; rfl
                have xf1 : (w8.alloc (Obj.cells #[.int .i64 p3, .int .i64 x3] 53)).frozen? ⟨r, 1, none⟩ = false := blk_free (blk_on hb8 hA8) 1
                have hrA := row_keep hrow8 (fun g hg => hA8.block g (by obtain ⟨cur, hc⟩ := row_lt hrow8 hg; exact blk_lt hc))
                have xc : (w8.alloc (Obj.cells #[.int .i64 p3, .int .i64 x3] 53)).cell? ⟨g8, fs.length * 3 + 2, none⟩ = some y8 := row_cell hrA hy8
                have xf : (w8.alloc (Obj.cells #[.int .i64 p3, .int .i64 x3] 53)).frozen? ⟨g8, fs.length * 3 + 2, none⟩ = false := row_free hrA _
                have hg8r : g8 ≠ r := fun e => by obtain ⟨cur, hc⟩ := row_lt hrow8 (g := g8) rfl; rw [e] at hc; exact blk_not hb8 (by decide) _ hc
                have hg8r2 : r ≠ g8 := Ne.symm hg8r
                have HB8 := hid hb8
                have HROW8 := hid hrow8
                have HAT8 := hid hat8
                have HL8 := hid hl8
                clear hbd hb8 hrow8 hA8 hR3 hat8 hl8 hrA hy8
                go_wp2_with fail
                obtain ⟨cur7, hc7⟩ := fnsS_lt HR7.out.fn (g := g) rfl
                have LB8 := laid_body HL7.out hrw hc7 HBD.out.keep
                obtain ⟨cur8, hc8⟩ := row_lt HROW8.out (g := g8) rfl
                have n0 : g8 ≠ w.heap.size := fun e => by rw [e] at hc8; exact blk_not LB8.box (by decide) _ hc8
                have n1 : g8 ≠ w.heap.size + 1 := fun e => by rw [e] at hc8; exact blk_not LB8.out (by decide) _ hc8
                have n2 : g8 ≠ w.heap.size + 1 + 1 := fun e => by rw [e] at hc8; exact blk_not LB8.flt (by decide) _ hc8
                have hlt8 := blk_lt hc8
                have hs8 := HBD.out.keep.size
                have hz7 := HZ7.out
                have hA8 := (Below.refl w8.heap.size w8).alloc (Nat.le_refl _) (Obj.cells #[.int .i64 p3, .int .i64 x3] 53)
                have KS2 := (Keep.set (S := fun b => b = g8 ∨ b = r) (.inl rfl) (w8.alloc (Obj.cells #[.int .i64 p3, .int .i64 x3] 53)) (fs.length * 3 + 2) (.slice none 0 0)).trans (Keep.set (S := fun b => b = g8 ∨ b = r) (.inr rfl) ((w8.alloc (Obj.cells #[.int .i64 p3, .int .i64 x3] 53)).setCell ⟨g8, fs.length * 3 + 2, none⟩ (.slice none 0 0)) 1 (.map lq)) (fun _ _ h => h)
                have L10 := hid ((LB8.on hA8).keep KS2 (fun b h1 h2 e => by rcases e with e | e <;> omega))
                have F10 := hid (blk_keep (blk_new w8 53 #[.int .i64 p3, .int .i64 x3]) KS2 (fun e => by rcases e with e | e <;> omega))
                have hq1 : w.heap.size + 1 + 1 + 1 + 1 ≤ w8.heap.size := by omega
                have HB10 := hid (fun_bad (n := fs.length) (j := fs.length * 3 + 2) (u := .slice none 0 0) (lq := .map lq) HK7.out HG7.out HBD.out.keep HB8.out (by have := HL8.out; simp at this; omega) HROW8.out HAT8.out hA8)
                clear x1 x2 xc xf xf1 hA8 KS2 LB8 hc7 hc8 hs8 hlt8
                generalize ((w8.alloc (Obj.cells #[.int .i64 p3, .int .i64 x3] 53)).setCell ⟨g8, fs.length * 3 + 2, none⟩ (.slice none 0 0)).setCell ⟨r, 1, none⟩ (.map lq) = w10 at *
                generalize w8.heap.size = gq at *
                have m1 : gq ≠ w.heap.size + 1 := by omega
                have m2 : gq ≠ w.heap.size + 1 + 1 := by omega
                have m3 : w.heap.size + 1 ≠ gq := Ne.symm m1
                have m4 : w.heap.size + 1 + 1 ≠ gq := Ne.symm m2
                have t0 : w10.cell? ⟨gq, 0, none⟩ = some (.int .i64 p3) := by rw [blk_cell F10.out]; rfl
                have t1 : w10.cell? ⟨gq, 1, none⟩ = some (.int .i64 x3) := by rw [blk_cell F10.out]; rfl
                have za0 : w10.cell? ⟨w.heap.size + 1, 0, none⟩ = some (.int .i64 0) := by rw [blk_cell L10.out.out]; rfl
                have za1 : w10.cell? ⟨w.heap.size + 1, 1, none⟩ = some (.int .i64 0) := by rw [blk_cell L10.out.out]; rfl
                have za2 : w10.cell? ⟨w.heap.size + 1, 2, none⟩ = some (.int .i64 0) := by rw [blk_cell L10.out.out]; rfl
                have za3 : w10.cell? ⟨w.heap.size + 1, 3, none⟩ = some (.string ⟨#[]⟩) := by rw [blk_cell L10.out.out]; rfl
                have za4 : w10.cell? ⟨w.heap.size + 1, 4, none⟩ = some (.slice none 0 0) := by rw [blk_cell L10.out.out]; rfl
                have za5 : w10.cell? ⟨w.heap.size + 1, 5, none⟩ = some (.slice none 0 0) := by rw [blk_cell L10.out.out]; rfl
                have za6 : w10.cell? ⟨w.heap.size + 1, 6, none⟩ = some (.int .i64 0) := by rw [blk_cell L10.out.out]; rfl
                have fa0 : w10.frozen? ⟨w.heap.size + 1, 0, none⟩ = false := blk_free L10.out.out 0
                have fa1 : w10.frozen? ⟨w.heap.size + 1, 1, none⟩ = false := blk_free L10.out.out 1
                have fa2 : w10.frozen? ⟨w.heap.size + 1, 2, none⟩ = false := blk_free L10.out.out 2
                have fa3 : w10.frozen? ⟨w.heap.size + 1, 3, none⟩ = false := blk_free L10.out.out 3
                have fa4 : w10.frozen? ⟨w.heap.size + 1, 4, none⟩ = false := blk_free L10.out.out 4
                have fa5 : w10.frozen? ⟨w.heap.size + 1, 5, none⟩ = false := blk_free L10.out.out 5
                have fa6 : w10.frozen? ⟨w.heap.size + 1, 6, none⟩ = false := blk_free L10.out.out 6
                have zb0 : w10.cell? ⟨w.heap.size + 1 + 1, 0, none⟩ = some (.int .i64 0) := by rw [blk_cell L10.out.flt]; rfl
                have zb1 : w10.cell? ⟨w.heap.size + 1 + 1, 1, none⟩ = some (.int .i64 0) := by rw [blk_cell L10.out.flt]; rfl
                have fb0 : w10.frozen? ⟨w.heap.size + 1 + 1, 0, none⟩ = false := blk_free L10.out.flt 0
                have fb1 : w10.frozen? ⟨w.heap.size + 1 + 1, 1, none⟩ = false := blk_free L10.out.flt 1
                go_region
                go_wp2_with fail
                refine bodyPost_ret (ret_n2 (g := w.heap.size + 1) (g' := w.heap.size + 1 + 1) (v0 := (.int .i64 20)) (v1 := (.int .i64 0)) (v2 := (.int .i64 (fs.length : Int))) (v3 := (.string ⟨#[]⟩)) (v4 := (.slice none 0 0)) (v5 := (.slice none 0 0)) (v6 := (.int .i64 0)) (x := (.int .i64 p3)) (y := (.int .i64 x3)) rfl rfl rfl ⟨by go_simp, by go_simp, by go_simp, by go_simp, by go_simp, by go_simp, by go_simp⟩ ⟨by go_simp, by go_simp⟩) rfl ?_
                rw [HP.out]
                have P1 := put72 (w := w10) (g := w.heap.size + 1) (f := w.heap.size + 1 + 1) (by omega) L10.out.out L10.out.flt (.int .i64 20) (.int .i64 0) (.int .i64 (fs.length : Int)) (.string ⟨#[]⟩) (.slice none 0 0) (.slice none 0 0) (.int .i64 0) (.int .i64 p3) (.int .i64 x3)
                refine ⟨⟨20, fs.length, rfl⟩, ?_⟩
                exact (HB10.out.put2 hrw P1.2.2 L10.out.out L10.out.flt (by omega) (by omega)).on (Below.refl _ _).drew
              | ok q3 =>
                obtain ⟨l3, fs3⟩ := q3
                obtain ⟨q, hq⟩ := resL_pre ks hR3
                simp only at hq
                unfold KidsOut fltP at h3
                simp only at h3
                obtain ⟨kv3, fv3, okR3, ok3, rfl, hks3, W3⟩ := h3
                have HP := hid (HPP.out.trans (by rw [hR3]; rfl : _ = Rz.ok (.mk 20 0 fs.length ⟨#[]⟩ [] [] 0, fs3.set fs.length (ns.length, own.length, l3))))
                obtain ⟨a2, c2, rfl⟩ := kidsS_shape hks3
                have HLL := hid (show fs.length < fs3.length by rw [hq]; simp)
                have HI3 := hid (show fs3[fs.length]? = some (ns.length, own.length, []) by rw [hq]; simp)
                obtain ⟨cs8, hrow8, _⟩ := W3.rs.fn
                obtain ⟨g8, c8, rfl⟩ := row_some hrow8 (by have := HLL.out; omega)
                have hl8' : (fs.length : Int) < (fs3.length : Int) := by have := HLL.out; omega
                obtain ⟨y8, hy8⟩ : ∃ y, cs8[fs.length * 3 + 2]? = some y := ⟨_, List.getElem?_eq_getElem (by have := hrow8.1; have := HLL.out; omega)⟩
                have hb8 := W3.rs.blk
                have hA8 := (Below.refl w8.heap.size w8).alloc (Nat.le_refl _) (Obj.cells #[.int .i64 0, .int .i64 0] 53)
                have x2 : (w8.alloc (Obj.cells #[.int .i64 0, .int .i64 0] 53)).cell? ⟨r, 2, none⟩ = some (.slice (some ⟨g8, 0, none⟩) fs3.length c8) := by rw [blk_cell (blk_on hb8 hA8)]; rfl
                have x1 : (w8.alloc (Obj.cells #[.int .i64 0, .int .i64 0] 53)).cell? ⟨r, 1, none⟩ = some (.map (some gn)) := by rw [blk_cell (blk_on hb8 hA8)]; rfl
                have xf1 : (w8.alloc (Obj.cells #[.int .i64 0, .int .i64 0] 53)).frozen? ⟨r, 1, none⟩ = false := blk_free (blk_on hb8 hA8) 1
                have hrA := row_keep hrow8 (fun g hg => hA8.block g (by obtain ⟨cur, hc⟩ := row_lt hrow8 hg; exact blk_lt hc))
                have xc : (w8.alloc (Obj.cells #[.int .i64 0, .int .i64 0] 53)).cell? ⟨g8, fs.length * 3 + 2, none⟩ = some y8 := row_cell hrA hy8
                have xf : (w8.alloc (Obj.cells #[.int .i64 0, .int .i64 0] 53)).frozen? ⟨g8, fs.length * 3 + 2, none⟩ = false := row_free hrA _
                have hg8r : g8 ≠ r := fun e => by obtain ⟨cur, hc⟩ := row_lt hrow8 (g := g8) rfl; rw [e] at hc; exact blk_not hb8 (by decide) _ hc
                have hg8r2 : r ≠ g8 := Ne.symm hg8r
                have HROW8 := hid hrow8
                have HW3 := hid W3
                have HKS3 := hid hks3
                clear hb8 hrow8 hA8 hR3 hrA hy8 W3 hks3 hq
                go_wp2_with fail
                obtain ⟨cur7, hc7⟩ := fnsS_lt HR7.out.fn (g := g) rfl
                have L8 := laid_body HL7.out hrw hc7 HW3.out.keep
                obtain ⟨cur8, hc8⟩ := row_lt HROW8.out (g := g8) rfl
                have n0 : g8 ≠ w.heap.size := fun e => by rw [e] at hc8; exact blk_not L8.box (by decide) _ hc8
                have n1 : g8 ≠ w.heap.size + 1 := fun e => by rw [e] at hc8; exact blk_not L8.out (by decide) _ hc8
                have n2 : g8 ≠ w.heap.size + 1 + 1 := fun e => by rw [e] at hc8; exact blk_not L8.flt (by decide) _ hc8
                have hlt8 := blk_lt hc8
                have hs8 := HW3.out.keep.size
                have hz7 := HZ7.out
                have hA8 := (Below.refl w8.heap.size w8).alloc (Nat.le_refl _) (Obj.cells #[.int .i64 0, .int .i64 0] 53)
                have KS2 := (Keep.set (S := fun b => b = g8 ∨ b = r) (.inl rfl) (w8.alloc (Obj.cells #[.int .i64 0, .int .i64 0] 53)) (fs.length * 3 + 2) (.slice a2 l3.length c2)).trans (Keep.set (S := fun b => b = g8 ∨ b = r) (.inr rfl) ((w8.alloc (Obj.cells #[.int .i64 0, .int .i64 0] 53)).setCell ⟨g8, fs.length * 3 + 2, none⟩ (.slice a2 l3.length c2)) 1 (.map lq)) (fun _ _ h => h)
                have L10 := hid ((L8.on hA8).keep KS2 (fun b h1 h2 e => by rcases e with e | e <;> omega))
                have F10 := hid (blk_keep (blk_new w8 53 #[.int .i64 0, .int .i64 0]) KS2 (fun e => by rcases e with e | e <;> omega))
                have hq1 : w.heap.size + 1 + 1 + 1 + 1 ≤ w8.heap.size := by omega
                have HB10 := hid (fun_ok HRs.out HK7.out HG7.out HW3.out HKS3.out HI3.out hA8)
                have hokT : ∀ b, (ok3 b ∨ okR3 b) → b ≠ w.heap.size + 1 ∧ b ≠ w.heap.size + 1 + 1 := fun b hb => by
                  rcases hb with hb | hb
                  · rcases HW3.out.old b hb with h | h
                    · have := (HRs.out.lt b h).1; omega
                    · omega
                  · have := (HW3.out.new b hb).1; omega
                have HOT := hid hokT
                clear hokT
                clear x1 x2 xc xf xf1 hA8 KS2 L8 hc7 hc8 hs8 hlt8
                generalize ((w8.alloc (Obj.cells #[.int .i64 0, .int .i64 0] 53)).setCell ⟨g8, fs.length * 3 + 2, none⟩ (.slice a2 l3.length c2)).setCell ⟨r, 1, none⟩ (.map lq) = w10 at *
                generalize w8.heap.size = gq at *
                have m1 : gq ≠ w.heap.size + 1 := by omega
                have m2 : gq ≠ w.heap.size + 1 + 1 := by omega
                have m3 : w.heap.size + 1 ≠ gq := Ne.symm m1
                have m4 : w.heap.size + 1 + 1 ≠ gq := Ne.symm m2
                have t0 : w10.cell? ⟨gq, 0, none⟩ = some (.int .i64 0) := by rw [blk_cell F10.out]; rfl
                have t1 : w10.cell? ⟨gq, 1, none⟩ = some (.int .i64 0) := by rw [blk_cell F10.out]; rfl
                have za0 : w10.cell? ⟨w.heap.size + 1, 0, none⟩ = some (.int .i64 0) := by rw [blk_cell L10.out.out]; rfl
                have za1 : w10.cell? ⟨w.heap.size + 1, 1, none⟩ = some (.int .i64 0) := by rw [blk_cell L10.out.out]; rfl
                have za2 : w10.cell? ⟨w.heap.size + 1, 2, none⟩ = some (.int .i64 0) := by rw [blk_cell L10.out.out]; rfl
                have za3 : w10.cell? ⟨w.heap.size + 1, 3, none⟩ = some (.string ⟨#[]⟩) := by rw [blk_cell L10.out.out]; rfl
                have za4 : w10.cell? ⟨w.heap.size + 1, 4, none⟩ = some (.slice none 0 0) := by rw [blk_cell L10.out.out]; rfl
                have za5 : w10.cell? ⟨w.heap.size + 1, 5, none⟩ = some (.slice none 0 0) := by rw [blk_cell L10.out.out]; rfl
                have za6 : w10.cell? ⟨w.heap.size + 1, 6, none⟩ = some (.int .i64 0) := by rw [blk_cell L10.out.out]; rfl
                have fa0 : w10.frozen? ⟨w.heap.size + 1, 0, none⟩ = false := blk_free L10.out.out 0
                have fa1 : w10.frozen? ⟨w.heap.size + 1, 1, none⟩ = false := blk_free L10.out.out 1
                have fa2 : w10.frozen? ⟨w.heap.size + 1, 2, none⟩ = false := blk_free L10.out.out 2
                have fa3 : w10.frozen? ⟨w.heap.size + 1, 3, none⟩ = false := blk_free L10.out.out 3
                have fa4 : w10.frozen? ⟨w.heap.size + 1, 4, none⟩ = false := blk_free L10.out.out 4
                have fa5 : w10.frozen? ⟨w.heap.size + 1, 5, none⟩ = false := blk_free L10.out.out 5
                have fa6 : w10.frozen? ⟨w.heap.size + 1, 6, none⟩ = false := blk_free L10.out.out 6
                have zb0 : w10.cell? ⟨w.heap.size + 1 + 1, 0, none⟩ = some (.int .i64 0) := by rw [blk_cell L10.out.flt]; rfl
                have zb1 : w10.cell? ⟨w.heap.size + 1 + 1, 1, none⟩ = some (.int .i64 0) := by rw [blk_cell L10.out.flt]; rfl
                have fb0 : w10.frozen? ⟨w.heap.size + 1 + 1, 0, none⟩ = false := blk_free L10.out.flt 0
                have fb1 : w10.frozen? ⟨w.heap.size + 1 + 1, 1, none⟩ = false := blk_free L10.out.flt 1
                go_region
                go_wp2_with fail
                refine bodyPost_ret (ret_n2 (g := w.heap.size + 1) (g' := w.heap.size + 1 + 1) (v0 := (.int .i64 20)) (v1 := (.int .i64 0)) (v2 := (.int .i64 (fs.length : Int))) (v3 := (.string ⟨#[]⟩)) (v4 := (.slice none 0 0)) (v5 := (.slice none 0 0)) (v6 := (.int .i64 0)) (x := (.int .i64 0)) (y := (.int .i64 0)) rfl rfl rfl ⟨by go_simp, by go_simp, by go_simp, by go_simp, by go_simp, by go_simp, by go_simp⟩ ⟨by go_simp, by go_simp⟩) rfl ?_
                rw [HP.out]
                have P1 := put72 (w := w10) (g := w.heap.size + 1) (f := w.heap.size + 1 + 1) (by omega) L10.out.out L10.out.flt (.int .i64 20) (.int .i64 0) (.int .i64 (fs.length : Int)) (.string ⟨#[]⟩) (.slice none 0 0) (.slice none 0 0) (.int .i64 0) (.int .i64 0) (.int .i64 0)
                refine ⟨_, _, _, fun _ => False, _, rfl, ndS_mk.2 ⟨.inl ⟨none, 0, rfl, rfl⟩, .inl ⟨none, 0, rfl, rfl⟩⟩, Went.on ⟨HB10.out.rs.keep P1.2.2 (by omega) (fun e => ?_) (fun b e e2 => ?_) (fun g e e2 => ?_) (fun b hb e => ?_), HB10.out.keep.trans P1.2.2 (fun i hi e => by omega), fun b hb => hb.elim, HB10.out.old, HB10.out.row, HB10.out.few⟩ (Below.refl _ _).drew⟩
                · have := nmAt_lt HRs.out.gs; omega
                · rcases HRs.out.ls with ⟨e3, _⟩ | ⟨b', e3, hn⟩
                  · rw [e] at e3; cases e3
                  · rw [e] at e3; cases e3
                    have := nmAt_lt hn; omega
                · simp [Value.ownBlock] at e
                  omega
                · have := HOT.out b hb; omega

end Go.Proofs.YtmihckhflbepjaaDoor
