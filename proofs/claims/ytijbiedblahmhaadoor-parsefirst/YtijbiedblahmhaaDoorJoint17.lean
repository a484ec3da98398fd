/- An object. A list with a closure. -/
import Derived.Test.YtijbiedblahmhaaDoorJoint16
import Derived.Test.YtijbiedblahmhaaDoorJoint15
namespace Go.Proofs.YtijbiedblahmhaaDoor
open Go.RowKit

theorem But.lo {P lo : Nat} {a b c : World} (h : But P a b) (k : ButLo lo P b c) (hl : a.heap.size ≤ lo) : But P a c :=
  ⟨k.os.trans h.os, k.tape.trans h.tape, k.output.trans h.output, Nat.le_trans h.size k.size, fun i h1 h2 => (k.block i (by omega) h2).trans (h.block i h1 h2)⟩
theorem blk_lo {P lo g : Nat} {T : TypeId} {cs : Array Value} {a c : World} (h : Blk g T cs a) (k : ButLo lo P a c) (hg : g < lo) (hp : g ≠ P) : Blk g T cs c := (k.block g hg hp).trans h
theorem ost_nil {P nb pb lo : Nat} {ok : Nat → Prop} {kd at_ : Int} {w : World} (h1 : Blk nb 26 #[.int .i64 kd, .int .i64 0, .int .i64 0, .string ⟨#[]⟩, .slice none 0 0, .slice none 0 0, .int .i64 at_] w) (h2 : Blk pb 32 #[.pointer (some ⟨P, 0, none⟩)] w) : OSt P nb pb lo ok kd at_ ([], []) w :=
  ⟨_, _, h1, h2, srow_nil _ _ _, krow_nil _ _ _⟩
/-- the node that was made, as an answer -/
theorem obj_fin {lo nb zb : Nat} {ok : Nat → Prop} {w : World} {nv kv : Value} {ns : List ByteArray} {ks : List Nd} (hb : ∀ b, ok b → lo ≤ b ∧ b ≠ zb) (M : SRow nb ok w nv ns) (R : KRow nb (OkN ok nv) w kv ks) (a b c d e f p : Value) :
    StR lo (put7w w zb a b c d e f p) nv ns ∧ KdR lo (put7w w zb a b c d e f p) kv ks := by
  have hs : (put7w w zb a b c d e f p).heap.size = w.heap.size := by simp [put7w, World.setCell]
  have AO := put7_aftO (ok := ok) (g := zb) w (fun h => (hb zb h).2 rfl) a b c d e f p
  exact ⟨strsW_keep (fun k hk => ⟨⟨(hb k hk.1).1, by rw [hs]; exact hk.2⟩, AO.block k hk.1 hk.2⟩) (srow_strs M), kidsW_keep (fun k hk => ⟨⟨(hb k hk.1.1).1, by rw [hs]; exact hk.2⟩, AO.block k hk.1.1 hk.2⟩) (krow_kids R)⟩

set_option maxRecDepth 100000 in
set_option maxHeartbeats 12800000 in
theorem obj_walk (P : Nat) (L l : List Tok) (w : World) (o : PG (List ByteArray × List Nd)) (H : Hid (PSt P L w l))
    (CC : Hid (Calls Tryd.prog 80 #[.pointer (some ⟨P, 0, none⟩), .int .i64 40, .string ⟨#[125]⟩, .func (.func 86) #[] #[.pointer (some ⟨w.heap.size + 1 + 1, 0, none⟩), .pointer (some ⟨w.heap.size, 0, none⟩)]] (((w.alloc (.cells #[.pointer (some ⟨P, 0, none⟩)] 32)).alloc (.cells #[.int .i64 0, .int .i64 0, .int .i64 0, .string ⟨#[]⟩, .slice none 0 0, .slice none 0 0, .int .i64 0] 26)).alloc (.cells #[.int .i64 7, .int .i64 0, .int .i64 0, .string ⟨#[]⟩, .slice none 0 0, .slice none 0 0, .int .i64 0] 26)) (ReadsG (OStO P (w.heap.size + 1 + 1) (w.heap.size) (w.heap.size + 1 + 1) (fun b => w.heap.size + 1 + 1 < b) 7 0) (w.heap.size + 1 + 1) P L (((w.alloc (.cells #[.pointer (some ⟨P, 0, none⟩)] 32)).alloc (.cells #[.int .i64 0, .int .i64 0, .int .i64 0, .string ⟨#[]⟩, .slice none 0 0, .slice none 0 0, .int .i64 0] 26)).alloc (.cells #[.int .i64 7, .int .i64 0, .int .i64 0, .string ⟨#[]⟩, .slice none 0 0, .slice none 0 0, .int .i64 0] 26)) o))) :
    Calls Tryd.prog 76 #[.pointer (some ⟨P, 0, none⟩)] w (Reads P L w ((PG.toL o).bind fun ns ks l => .ok (.mk 7 0 0 bz ns ks 0) false l)) := by
  have hP := H.out.lt
  have A1 := (Below.refl _ w).alloc (Nat.le_refl _) (.cells #[.pointer (some ⟨P, 0, none⟩)] 32)
  have A2 := (Below.refl _ (w.alloc (.cells #[.pointer (some ⟨P, 0, none⟩)] 32))).alloc (Nat.le_refl _) (.cells #[.int .i64 0, .int .i64 0, .int .i64 0, .string ⟨#[]⟩, .slice none 0 0, .slice none 0 0, .int .i64 0] 26)
  have A3 := (Below.refl _ ((w.alloc (.cells #[.pointer (some ⟨P, 0, none⟩)] 32)).alloc (.cells #[.int .i64 0, .int .i64 0, .int .i64 0, .string ⟨#[]⟩, .slice none 0 0, .slice none 0 0, .int .i64 0] 26))).alloc (Nat.le_refl _) (.cells #[.int .i64 7, .int .i64 0, .int .i64 0, .string ⟨#[]⟩, .slice none 0 0, .slice none 0 0, .int .i64 0] 26)
  have S3 := hid (((H.out.on A1).on A2).on A3)
  have Q3 := hid (blk_on (blk_on (blk_new w 32 #[.pointer (some ⟨P, 0, none⟩)]) A2) A3)
  have Z3 := hid (show Blk (w.heap.size + 1) 26 #[.int .i64 0, .int .i64 0, .int .i64 0, .string ⟨#[]⟩, .slice none 0 0, .slice none 0 0, .int .i64 0] (((w.alloc (.cells #[.pointer (some ⟨P, 0, none⟩)] 32)).alloc (.cells #[.int .i64 0, .int .i64 0, .int .i64 0, .string ⟨#[]⟩, .slice none 0 0, .slice none 0 0, .int .i64 0] 26)).alloc (.cells #[.int .i64 7, .int .i64 0, .int .i64 0, .string ⟨#[]⟩, .slice none 0 0, .slice none 0 0, .int .i64 0] 26)) from by
    have := blk_on (blk_new (w.alloc (.cells #[.pointer (some ⟨P, 0, none⟩)] 32)) 26 #[.int .i64 0, .int .i64 0, .int .i64 0, .string ⟨#[]⟩, .slice none 0 0, .slice none 0 0, .int .i64 0]) A3
    simpa using this)
  have K3 := hid (show Blk (w.heap.size + 1 + 1) 26 #[.int .i64 7, .int .i64 0, .int .i64 0, .string ⟨#[]⟩, .slice none 0 0, .slice none 0 0, .int .i64 0] (((w.alloc (.cells #[.pointer (some ⟨P, 0, none⟩)] 32)).alloc (.cells #[.int .i64 0, .int .i64 0, .int .i64 0, .string ⟨#[]⟩, .slice none 0 0, .slice none 0 0, .int .i64 0] 26)).alloc (.cells #[.int .i64 7, .int .i64 0, .int .i64 0, .string ⟨#[]⟩, .slice none 0 0, .slice none 0 0, .int .i64 0] 26)) from by
    have := blk_new ((w.alloc (.cells #[.pointer (some ⟨P, 0, none⟩)] 32)).alloc (.cells #[.int .i64 0, .int .i64 0, .int .i64 0, .string ⟨#[]⟩, .slice none 0 0, .slice none 0 0, .int .i64 0] 26)) 26 #[.int .i64 7, .int .i64 0, .int .i64 0, .string ⟨#[]⟩, .slice none 0 0, .slice none 0 0, .int .i64 0]
    simpa using this)
  have B3 := hid (((But.of (P := P) A1).trans (But.of A2)).trans (But.of A3))
  have C : C1 P (w.heap.size + 1 + 1) (w.heap.size) (w.heap.size + 1 + 1) (fun b => w.heap.size + 1 + 1 < b) := ⟨by omega, Nat.le_refl _, hP, by omega, by omega, by omega, by omega, fun b h1 h2 => h1⟩
  clear A1 A2 A3
  clear H C Q3 K3
  cases o with
  | bad l' =>
    go_enter Tryd.func76, Tryd.ntmps76
    go_wp2_with fail
    refine CC.out.mono ?_
    rintro e w1 ⟨rfl, s1, b1⟩
    have S1 := hid s1
    have B1 := hid (B3.out.lo b1 (by omega))
    clear s1 b1 CC
    unfold gaveUp
    go_wp2_with fail
    exact ⟨rfl, rfl, S1.out, B1.out⟩
  | ok s l' =>
    go_enter Tryd.func76, Tryd.ntmps76
    go_wp2_with fail
    refine CC.out.mono ?_
    rintro e w1 ⟨rfl, ⟨hlen, nv, kv, k1, q1, m1, r1⟩, s1, b1⟩
    clear hlen
    obtain ⟨f1, g1, rfl⟩ := srow_shape m1
    obtain ⟨f2, g2, rfl⟩ := krow_shape r1
    have S1 := hid s1
    have B1 := hid (B3.out.lo b1 (by omega))
    have Z1 := hid (blk_lo Z3.out b1 (by omega) (by omega))
    have K1 := hid k1
    have M1 := hid m1
    have R1 := hid r1
    clear s1 b1 k1 q1 m1 r1 CC S3 B3 Z3
    obtain ⟨c0, c1, c2, c3, c4, c5, c6⟩ := cells7 K1.out
    obtain ⟨r0, r1, r2, r3, r4, r5, r6⟩ := cells7 Z1.out
    obtain ⟨u0, u1, u2, u3, u4, u5, u6⟩ := frees7 Z1.out
    have hg9 := blk_lt Z1.out
    have hv9 := blk_lt K1.out
    go_wp2_with fail
    have Z := fin_put hP (Nat.le_succ _) S1.out B1.out Z1.out (.int .i64 7) (.int .i64 0) (.int .i64 0) (.string ⟨#[]⟩) (.slice f1 s.1.length g1) (.slice f2 s.2.length g2) (.int .i64 0)
    exact bodyPost_ret (ret_nd rfl rfl Z.1) rfl ⟨⟨_, _, rfl, ndR_mk2 (obj_fin (fun b hb => ⟨by omega, by omega⟩) M1.out R1.out _ _ _ _ _ _ _)⟩, Z.2.1, Z.2.2⟩

theorem obj_calls (f : Nat) (hR : ∀ g, g ≤ f → RankC g) : ObjC (f + 2) := by
  intro P L l w hf H
  unfold pObjN
  rw [obj_is]
  refine obj_walk P L l w _ H ?_
  have hP := H.out.lt
  have A1 := (Below.refl _ w).alloc (Nat.le_refl _) (.cells #[.pointer (some ⟨P, 0, none⟩)] 32)
  have A2 := (Below.refl _ (w.alloc (.cells #[.pointer (some ⟨P, 0, none⟩)] 32))).alloc (Nat.le_refl _) (.cells #[.int .i64 0, .int .i64 0, .int .i64 0, .string ⟨#[]⟩, .slice none 0 0, .slice none 0 0, .int .i64 0] 26)
  have A3 := (Below.refl _ ((w.alloc (.cells #[.pointer (some ⟨P, 0, none⟩)] 32)).alloc (.cells #[.int .i64 0, .int .i64 0, .int .i64 0, .string ⟨#[]⟩, .slice none 0 0, .slice none 0 0, .int .i64 0] 26))).alloc (Nat.le_refl _) (.cells #[.int .i64 7, .int .i64 0, .int .i64 0, .string ⟨#[]⟩, .slice none 0 0, .slice none 0 0, .int .i64 0] 26)
  have S3 := hid (((H.out.on A1).on A2).on A3)
  have Q3 := hid (blk_on (blk_on (blk_new w 32 #[.pointer (some ⟨P, 0, none⟩)]) A2) A3)
  have Z3 := hid (show Blk (w.heap.size + 1) 26 #[.int .i64 0, .int .i64 0, .int .i64 0, .string ⟨#[]⟩, .slice none 0 0, .slice none 0 0, .int .i64 0] (((w.alloc (.cells #[.pointer (some ⟨P, 0, none⟩)] 32)).alloc (.cells #[.int .i64 0, .int .i64 0, .int .i64 0, .string ⟨#[]⟩, .slice none 0 0, .slice none 0 0, .int .i64 0] 26)).alloc (.cells #[.int .i64 7, .int .i64 0, .int .i64 0, .string ⟨#[]⟩, .slice none 0 0, .slice none 0 0, .int .i64 0] 26)) from by
    have := blk_on (blk_new (w.alloc (.cells #[.pointer (some ⟨P, 0, none⟩)] 32)) 26 #[.int .i64 0, .int .i64 0, .int .i64 0, .string ⟨#[]⟩, .slice none 0 0, .slice none 0 0, .int .i64 0]) A3
    simpa using this)
  have K3 := hid (show Blk (w.heap.size + 1 + 1) 26 #[.int .i64 7, .int .i64 0, .int .i64 0, .string ⟨#[]⟩, .slice none 0 0, .slice none 0 0, .int .i64 0] (((w.alloc (.cells #[.pointer (some ⟨P, 0, none⟩)] 32)).alloc (.cells #[.int .i64 0, .int .i64 0, .int .i64 0, .string ⟨#[]⟩, .slice none 0 0, .slice none 0 0, .int .i64 0] 26)).alloc (.cells #[.int .i64 7, .int .i64 0, .int .i64 0, .string ⟨#[]⟩, .slice none 0 0, .slice none 0 0, .int .i64 0] 26)) from by
    have := blk_new ((w.alloc (.cells #[.pointer (some ⟨P, 0, none⟩)] 32)).alloc (.cells #[.int .i64 0, .int .i64 0, .int .i64 0, .string ⟨#[]⟩, .slice none 0 0, .slice none 0 0, .int .i64 0] 26)) 26 #[.int .i64 7, .int .i64 0, .int .i64 0, .string ⟨#[]⟩, .slice none 0 0, .slice none 0 0, .int .i64 0]
    simpa using this)
  have B3 := hid (((But.of (P := P) A1).trans (But.of A2)).trans (But.of A3))
  have C : C1 P (w.heap.size + 1 + 1) (w.heap.size) (w.heap.size + 1 + 1) (fun b => w.heap.size + 1 + 1 < b) := ⟨by omega, Nat.le_refl _, hP, by omega, by omega, by omega, by omega, fun b h1 h2 => h1⟩
  clear A1 A2 A3
  exact hid (glist_callsO 40 125 _ _ _ (OStO P (w.heap.size + 1 + 1) (w.heap.size) (w.heap.size + 1 + 1) (fun b => w.heap.size + 1 + 1 < b) 7 0) P (w.heap.size + 1 + 1) L (fun s a b h k => ⟨h.1, ost_but C s a b h.2 k⟩) (fun s => s.2.length) obStep f (by omega) (by omega) (fun g hg => ob1_calls g (hR g hg) P _ _ _ L _ C 7 0) (fun g s s' l l' w' S h => ob1_less P L g s s' l l' w' S h) l ([], []) _ (by omega) rfl (by simp) S3 (hid ⟨rfl, ost_nil K3.out Q3.out⟩))

end Go.Proofs.YtijbiedblahmhaaDoor

namespace Go.Proofs.YtijbiedblahmhaaDoor
open Go.RowKit

set_option maxRecDepth 100000 in
set_option maxHeartbeats 12800000 in
theorem glist_emptyF (most : Nat) (en : UInt8) (c1 c2 : Value) (σ : Type) (I : σ → World → Prop) (P lo : Nat) (L : List Tok) (hI : ∀ (s : σ) (a b : World), I s a → But P a b → I s b) (t : Tok) (q : List Tok) (s : σ) (w : World) (hlw : lo ≤ w.heap.size)
    (H : Hid (PSt P L w (t :: q))) (HS : Hid (I s w)) (ht : isT t [en] = true) :
    Calls Tryd.prog 80 #[.pointer (some ⟨P, 0, none⟩), .int .i64 most, .string ⟨#[en]⟩, .func (.func 87) #[] #[c1, c2]] w (ReadsG I lo P L w (.ok s q)) := by
  have HT := hid (show isT t (⟨#[en]⟩ : ByteArray).data.toList = true from ht)
  have HI := hid hI
  clear ht hI
  go_enter Tryd.func80, Tryd.ntmps80
  go_wp2_with fail
  refine (take_yes P L t q ⟨#[en]⟩ _ H HT.out).mono ?_
  rintro e w1 ⟨rfl, s1, b1⟩
  have S1 := hid s1
  have I1 := hid (HI.out _ _ _ HS.out b1)
  have B1 := hid (ButLo.of (lo := lo) b1 hlw)
  clear s1 b1 H HS HT HI
  go_wp2_with fail
  go_end0
  exact ⟨rfl, I1.out, S1.out, B1.out⟩

set_option maxRecDepth 100000 in
set_option maxHeartbeats 12800000 in
theorem glist_oneF (most : Nat) (en : UInt8) (c1 c2 : Value) (σ : Type) (I : σ → World → Prop) (P lo : Nat) (L : List Tok) (hI : ∀ (s : σ) (a b : World), I s a → But P a b → I s b) (cnt : σ → Nat) (step : Nat → σ → List Tok → PG σ) (f : Nat) (hC : PartC 87 c1 c2 I cnt most step lo P L f) (l : List Tok) (s : σ) (w : World) (hf : 20 * l.length + 10 ≤ f) (hk : cnt s < most) (hlw : lo ≤ w.heap.size)
    (H : Hid (PSt P L w l)) (HS : Hid (I s w)) (hn : isH l [en] = false) (l1 : List Tok) (hq : step f s l = .bad l1) :
    Calls Tryd.prog 80 #[.pointer (some ⟨P, 0, none⟩), .int .i64 most, .string ⟨#[en]⟩, .func (.func 87) #[] #[c1, c2]] w (ReadsG I lo P L w (.bad l1)) := by
  have HN := hid (show isH l (⟨#[en]⟩ : ByteArray).data.toList = false from hn)
  have HC := hid hC
  have HI := hid hI
  clear hC hn hI
  go_enter Tryd.func80, Tryd.ntmps80
  go_wp2_with fail
  refine (take_no P L l ⟨#[en]⟩ _ H HN.out).mono ?_
  rintro e w1 ⟨rfl, b1⟩
  have S1 := hid (H.out.on b1)
  have I1 := hid (HI.out _ _ _ HS.out (But.of b1))
  have B1 := hid (ButLo.of (lo := lo) (But.of (P := P) b1) hlw)
  have hz1 := b1.size
  clear b1 H HS HN
  go_wp2_with fail
  have CC := HC.out s l w1 hf hk (by omega) S1 I1
  rw [hq] at CC
  refine CC.mono ?_
  rintro e w2 ⟨rfl, s2, b2⟩
  have S2 := hid s2
  have B2 := hid (B1.out.trans b2)
  clear s2 b2 CC S1 I1 B1 HC HI
  unfold gaveUp
  go_wp2_with fail
  exact ⟨rfl, rfl, S2.out, B2.out⟩

set_option maxRecDepth 100000 in
set_option maxHeartbeats 12800000 in
theorem glist_moreF (most : Nat) (en : UInt8) (c1 c2 : Value) (σ : Type) (I : σ → World → Prop) (P lo : Nat) (L : List Tok) (hI : ∀ (s : σ) (a b : World), I s a → But P a b → I s b) (cnt : σ → Nat) (step : Nat → σ → List Tok → PG σ) (f : Nat) (hmo : most ≤ 40) (hC : ∀ g, g ≤ f → PartC 87 c1 c2 I cnt most step lo P L g) (hL : ∀ (g : Nat) (s s' : σ) (l l' : List Tok) (w : World), PSt P L w l → step g s l = .ok s' l' → l'.length + 1 ≤ l.length ∧ cnt s' = cnt s + 1)
    (l : List Tok) (s : σ) (w : World) (hf : 20 * l.length + 10 ≤ f) (hk : cnt s = 0) (hm0 : 0 < most) (hlw : lo ≤ w.heap.size)
    (H : Hid (PSt P L w l)) (HS : Hid (I s w)) (hn : isH l [en] = false) (s1 : σ) (l1 : List Tok) (hq : step f s l = .ok s1 l1) :
    Calls Tryd.prog 80 #[.pointer (some ⟨P, 0, none⟩), .int .i64 most, .string ⟨#[en]⟩, .func (.func 87) #[] #[c1, c2]] w (ReadsG I lo P L w (gMore step cnt most en f s1 l1)) := by
  have HN := hid (show isH l (⟨#[en]⟩ : ByteArray).data.toList = false from hn)
  have HC := hid hC
  have HI := hid hI
  have HL := hid hL
  obtain ⟨hl1, hc1⟩ := hL f s s1 l l1 w H.out hq
  clear hC hn hI hL
  go_enter Tryd.func80, Tryd.ntmps80
  go_wp2_with fail
  refine (take_no P L l ⟨#[en]⟩ _ H HN.out).mono ?_
  rintro e w1 ⟨rfl, b1⟩
  have S1 := hid (H.out.on b1)
  have I1 := hid (HI.out _ _ _ HS.out (But.of b1))
  have B1 := hid (ButLo.of (lo := lo) (But.of (P := P) b1) hlw)
  have hz1 := b1.size
  clear b1 H HS HN
  go_wp2_with fail
  have CC := HC.out f (Nat.le_refl _) s l w1 hf (by omega) (by omega) S1 I1
  rw [hq] at CC
  refine CC.mono ?_
  rintro e w2 ⟨rfl, i2, s2, b2⟩
  have I2 := hid i2
  have S2 := hid s2
  have B2 := hid (B1.out.trans b2)
  clear i2 s2 b2 CC S1 I1 B1
  go_wp2_with fail
  go_loopw [8] (fun i wr => ∃ (g : Nat) (s' : σ) (m : List Tok) (n : Nat), Hid (gMore step cnt most en f s1 l1 = gMore step cnt most en g s' m) ∧ i = .int .i64 n ∧ n = cnt s' ∧ n ≤ most ∧ 20 * m.length + 25 ≤ g ∧ g ≤ f ∧ Hid (PSt P L wr m) ∧ Hid (I s' wr) ∧ Hid (ButLo lo P w wr)) (fun _ wr => leftAt P L wr)
  case atStart => exact ⟨f, s1, l1, 1, (show Hid (_ = _) from rfl), rfl, by omega, by omega, by omega, Nat.le_refl _, S2.out, I2.out, B2.out⟩
  case round =>
    obtain ⟨g, s', m, n, hE, rfl, hn, hnm, hgm, hgf, hS, hII, hB⟩ := hrel
    clear S2 I2 B2
    obtain ⟨g, rfl⟩ : ∃ g', g = g' + 2 := ⟨g - 2, by omega⟩
    have hzr := hB.out.size
    have LW := hid (left_is hS.out)
    by_cases h7 : n < most
    · by_cases h44 : isH m [44] = true
      · obtain ⟨u, z, rfl, hu⟩ := isH_some h44
        have HE := hid (hE.out.trans (gMore_more ⟨hn ▸ h7, h44⟩))
        have HU := hid hu
        have hzl : 20 * z.length + 10 ≤ g := by simp at hgm; omega
        clear hE h44 hu
        cases hq2 : step g s' z with
        | bad l3 =>
          rw [hq2] at HE
          go_wp2_with fail
          refine (take_yes P L u z ⟨#[44]⟩ _ hS HU.out).mono ?_
          rintro e w3 ⟨rfl, s3, b3⟩
          have S3 := hid s3
          have I3 := hid (HI.out _ _ _ hII.out b3)
          have B3 := hid (hB.out.trans (ButLo.of b3 (by omega)))
          have hz3 := b3.size
          clear s3 b3 hS hII hB HU LW
          go_wp2_with fail
          have CC := HC.out g (by omega) s' z w3 hzl (by omega) (by omega) S3 I3
          rw [hq2] at CC
          refine CC.mono ?_
          rintro e w4 ⟨rfl, s4, b4⟩
          have S4 := hid s4
          have B4 := hid (B3.out.trans b4)
          clear s4 b4 CC S3 I3 B3 HC
          unfold gaveUp
          go_wp2_with fail
          refine ⟨rfl, ?_⟩
          rw [HE.out]
          exact ⟨rfl, S4.out, B4.out⟩
        | ok s3' l3 =>
          have HL3 := hid (fun (w' : World) (S : PSt P L w' z) => HL.out g s' s3' z l3 w' S hq2)
          rw [hq2] at HE
          go_wp2_with fail
          refine (take_yes P L u z ⟨#[44]⟩ _ hS HU.out).mono ?_
          rintro e w3 ⟨rfl, s3, b3⟩
          obtain ⟨hl3, hc3⟩ := HL3.out w3 s3
          have S3 := hid s3
          have I3 := hid (HI.out _ _ _ hII.out b3)
          have B3 := hid (hB.out.trans (ButLo.of b3 (by omega)))
          have hz3 := b3.size
          clear s3 b3 hS hII hB HU HL3
          go_wp2_with fail
          have CC := HC.out g (by omega) s' z w3 hzl (by omega) (by omega) S3 I3
          rw [hq2] at CC
          refine CC.mono ?_
          rintro e w4 ⟨rfl, i4, s4, b4⟩
          have I4 := hid i4
          have S4 := hid s4
          have B4 := hid (B3.out.trans b4)
          have HLE := hid (show leftAt P L w4 < leftAt P L wr by rw [left_is s4, LW.out]; simp; omega)
          have HE4 := hid (HE.out.trans (PG.bind_ok s3' l3 _))
          clear i4 s4 b4 CC S3 I3 B3 HE LW
          go_wp2_with fail
          go_roundw
          case rel => exact ⟨g, s3', l3, n + 1, HE4.out, by go_num, by omega, by omega, by simp at hgm; omega, by omega, S4.out, I4.out, B4.out⟩
          case measure => exact HLE.out
      · have hE' := hE.out.trans (gMore_stop (fun h => h44 h.2))
        have H44 := hid (show isH m (⟨#[44]⟩ : ByteArray).data.toList = false by simpa using h44)
        clear hE h44 HC LW HL
        by_cases he : isH m [en] = true
        · obtain ⟨u, z, rfl, hu⟩ := isH_some he
          have HE := hid (hE'.trans (gEnd_yes he))
          have HU := hid (show isT u (⟨#[en]⟩ : ByteArray).data.toList = true from hu)
          clear hE' he hu
          go_wp2_with fail
          refine (take_no P L (u :: z) ⟨#[44]⟩ _ hS H44.out).mono ?_
          rintro e w4 ⟨rfl, b4⟩
          have S4 := hid (hS.out.on b4)
          have I4 := hid (HI.out _ _ _ hII.out (But.of b4))
          have B4 := hid (hB.out.trans (ButLo.of (But.of (P := P) b4) (by omega)))
          have hz4 := b4.size
          clear b4 H44
          go_wp2_with fail
          refine (must_yes P L u z ⟨#[en]⟩ _ S4 HU.out).mono ?_
          rintro e w5 ⟨rfl, s5, b5⟩
          have S5 := hid s5
          have I5 := hid (HI.out _ _ _ I4.out b5)
          have B5 := hid (B4.out.trans (ButLo.of b5 (by omega)))
          clear s5 b5
          go_wp2_with fail
          go_end0
          rw [HE.out]
          exact ⟨rfl, I5.out, S5.out, B5.out⟩
        · have HE := hid (hE'.trans (gEnd_no he))
          have HN := hid (show isH m (⟨#[en]⟩ : ByteArray).data.toList = false by simpa using he)
          clear hE' he
          go_wp2_with fail
          refine (take_no P L m ⟨#[44]⟩ _ hS H44.out).mono ?_
          rintro e w4 ⟨rfl, b4⟩
          have S4 := hid (hS.out.on b4)
          have I4 := hid (HI.out _ _ _ hII.out (But.of b4))
          have B4 := hid (hB.out.trans (ButLo.of (But.of (P := P) b4) (by omega)))
          have hz4 := b4.size
          clear b4 H44
          go_wp2_with fail
          refine (must_no P L m ⟨#[en]⟩ _ S4 HN.out).mono ?_
          rintro e w5 ⟨rfl, b5⟩
          have S5 := hid (S4.out.on b5)
          have B5 := hid (B4.out.trans (ButLo.of (But.of (P := P) b5) (by omega)))
          clear b5
          unfold gaveUp
          go_wp2_with fail
          refine ⟨rfl, ?_⟩
          rw [HE.out]
          exact ⟨rfl, S5.out, B5.out⟩
    · have hE' := hE.out.trans (gMore_stop (fun h => h7 (hn ▸ h.1)))
      clear hE HC LW HL
      by_cases he : isH m [en] = true
      · obtain ⟨u, z, rfl, hu⟩ := isH_some he
        have HE := hid (hE'.trans (gEnd_yes he))
        have HU := hid (show isT u (⟨#[en]⟩ : ByteArray).data.toList = true from hu)
        clear hE' he hu
        go_wp2_with fail
        refine (must_yes P L u z ⟨#[en]⟩ _ hS HU.out).mono ?_
        rintro e w5 ⟨rfl, s5, b5⟩
        have S5 := hid s5
        have I5 := hid (HI.out _ _ _ hII.out b5)
        have B5 := hid (hB.out.trans (ButLo.of b5 (by omega)))
        clear s5 b5
        go_wp2_with fail
        go_end0
        rw [HE.out]
        exact ⟨rfl, I5.out, S5.out, B5.out⟩
      · have HE := hid (hE'.trans (gEnd_no he))
        have HN := hid (show isH m (⟨#[en]⟩ : ByteArray).data.toList = false by simpa using he)
        clear hE' he
        go_wp2_with fail
        refine (must_no P L m ⟨#[en]⟩ _ hS HN.out).mono ?_
        rintro e w5 ⟨rfl, b5⟩
        have S5 := hid (hS.out.on b5)
        have B5 := hid (hB.out.trans (ButLo.of (But.of (P := P) b5) (by omega)))
        clear b5
        unfold gaveUp
        go_wp2_with fail
        refine ⟨rfl, ?_⟩
        rw [HE.out]
        exact ⟨rfl, S5.out, B5.out⟩

/-- a list as the document says -/
theorem glist_callsF (most : Nat) (en : UInt8) (c1 c2 : Value) (σ : Type) (I : σ → World → Prop) (P lo : Nat) (L : List Tok) (hI : ∀ (s : σ) (a b : World), I s a → But P a b → I s b) (cnt : σ → Nat) (step : Nat → σ → List Tok → PG σ) (f : Nat) (hmo : most ≤ 40) (hm0 : 0 < most) (hC : ∀ g, g ≤ f → PartC 87 c1 c2 I cnt most step lo P L g) (hL : ∀ (g : Nat) (s s' : σ) (l l' : List Tok) (w : World), PSt P L w l → step g s l = .ok s' l' → l'.length + 1 ≤ l.length ∧ cnt s' = cnt s + 1)
    (l : List Tok) (s : σ) (w : World) (hf : 20 * l.length + 10 ≤ f) (hk : cnt s = 0) (hlw : lo ≤ w.heap.size) (H : Hid (PSt P L w l)) (HS : Hid (I s w)) :
    Calls Tryd.prog 80 #[.pointer (some ⟨P, 0, none⟩), .int .i64 most, .string ⟨#[en]⟩, .func (.func 87) #[] #[c1, c2]] w (ReadsG I lo P L w (gList step cnt most en f s l)) := by
  unfold gList
  by_cases he : isH l [en] = true
  · obtain ⟨t, q, rfl, ht⟩ := isH_some he
    rw [if_pos he]
    exact glist_emptyF most en c1 c2 σ I P lo L hI t q s w hlw H HS ht
  · rw [if_neg he]
    cases hq : step f s l with
    | bad l1 =>
      rw [PG.bind_bad]
      exact glist_oneF most en c1 c2 σ I P lo L hI cnt step f (hC f (Nat.le_refl _)) l s w hf (by omega) hlw H HS (by simpa using he) l1 hq
    | ok s1 l1 =>
      rw [PG.bind_ok]
      exact glist_moreF most en c1 c2 σ I P lo L hI cnt step f hmo hC hL l s w hf hk hm0 hlw H HS (by simpa using he) s1 l1 hq

end Go.Proofs.YtijbiedblahmhaaDoor
