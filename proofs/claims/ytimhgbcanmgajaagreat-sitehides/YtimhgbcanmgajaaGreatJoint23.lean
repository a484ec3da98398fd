/- What the laws of the heap share: acts, and the law's own test. Acts that came in, in memory. Two heaps side by side, beside the law's own blocks X. A heap with its table of sites, and another heap, side by side. -/
import Derived.Test.YtimhgbcanmgajaaGreatHpDump
import Derived.Test.YtimhgbcanmgajaaGreatHpSet
import Derived.Test.YtimhgbcanmgajaaGreatHpMake2
import Derived.Test.YtimhgbcanmgajaaGreatJoint21
import Derived.Lib.Strings
import Derived.Test.YtimhgbcanmgajaaGreatJoint20
namespace Go.Proofs.YtimhgbcanmgajaaGreat
set_option linter.unusedSimpArgs false
set_option maxRecDepth 100000
open Go.RowKit

/-- a heap of the law's, beside its own blocks X -/
abbrev HpX (B : Nat) (X : Nat → Prop) (K h : Nat) (H : He) (w : World) : Prop := HpS (fun b => B ≤ b ∧ ¬ X b) K h H w
theorem hp_step {B K h : Nat} {X : Nat → Prop} {H : He} {w w' : World} (hX : ∀ b, X b → b < w.heap.size) (hB : B ≤ w.heap.size) (p : HpS (Up (fun b => B ≤ b ∧ ¬ X b) w) K h H w' ∧ Keep (fun b => B ≤ b ∧ ¬ X b) w w') : HpX B X K h H w' ∧ Keep (fun b => B ≤ b ∧ ¬ X b) w w' ∧ Below B w w' :=
  ⟨p.1.mono (fun b _ h => by
    rcases h with h | h
    · exact h
    · exact ⟨by omega, fun hx => by have := hX b hx; omega⟩), p.2, p.2.below hB (fun b h => h.1)⟩
/-- an act: do, a, b, name, value -/
abbrev AcH := Int × Int × Int × ByteArray × Vl
def aDo (a : AcH) : Int := a.1
def aA (a : AcH) : Int := a.2.1
def aB (a : AcH) : Int := a.2.2.1
def aN (a : AcH) : ByteArray := a.2.2.2.1
def aV (a : AcH) : Vl := a.2.2.2.2
def acHC (a : AcH) : List Value := [.int .i64 a.1, .int .i64 a.2.1, .int .i64 a.2.2.1, .string a.2.2.2.1, .int .i64 a.2.2.2.2.1, .int .i64 a.2.2.2.2.2.1, .string a.2.2.2.2.2.2]
abbrev acHV (a : AcH) : Value := .agg #[.int .i64 a.1, .int .i64 a.2.1, .int .i64 a.2.2.1, .string a.2.2.2.1, .int .i64 a.2.2.2.2.1, .int .i64 a.2.2.2.2.2.1, .string a.2.2.2.2.2.2]
def longH (a : AcH) : Bool := decide (300 < a.2.2.2.1.size) || decide (300 < a.2.2.2.2.2.2.size)
/-! the law's own test -/
def nx : ByteArray := ⟨#[120]⟩
def v21 : Vl := (2, 1, ⟨#[]⟩)
def hw0 : He := newH 9 9 99
def hw2 : He := makeH (makeH hw0)
def hw3 : He := setH hw2 1 nx v21
def hw4 : He := setH hw3 2 nx vl0
def hw5 : He := delH hw4 2 nx
def hw6 : He := protoS hw5 2 1
theorem wk1 : makeN hw0 = 1 ∧ makeN (makeH hw0) = 2 ∧ makeE hw0 = 0 ∧ makeE (makeH hw0) = 0 := by decide
theorem wk2 : setE hw2 1 nx = 0 ∧ setE hw3 2 nx = 0 := by decide
theorem wk3 : shapeH hw4 1 = 2 ∧ shapeH hw4 2 = 2 := by decide
theorem wk4 : protoE hw5 2 1 = 0 ∧ protoE hw6 1 2 = 32 := by decide
theorem wk5 : gotH hw6 2 nx = v21 := by decide
theorem wk6 : (⟨(dumpT (protoS hw6 1 2)).toArray⟩ : ByteArray) = ⟨#[35, 49, 32, 35, 48, 32, 120, 58, 49, 10, 35, 50, 32, 35, 49, 10]⟩ := by decide

theorem fitW : HFit (protoS hw6 1 2) := hfit_proto (hfit_proto (hfit_del (hfit_set (hfit_set (hfit_make (hfit_make (hfit_new _ _ _))) ⟨by unfold I64; decide, by decide⟩) ⟨by unfold I64; decide, by decide⟩)))
end Go.Proofs.YtimhgbcanmgajaaGreat

namespace Go.Proofs.YtimhgbcanmgajaaGreat
set_option linter.unusedSimpArgs false
set_option maxRecDepth 100000
open Go.RowKit

def acI (a : AcH) : Prop := a.2.2.2.1.size ≤ maxLen ∧ a.2.2.2.2.2.2.size ≤ maxLen ∧ I64 a.2.2.2.2.2.1
theorem acts_of {l : List (List Value)} (h : ∀ r ∈ l, r.length = 7 ∧ FitsF [.i, .i, .i, .s, .i, .i, .s] r) : ∃ xs : List AcH, l = xs.map acHC ∧ ∀ x ∈ xs, acI x := by
  apply rows_map
  intro r hr
  obtain ⟨hl, hf0⟩ := h r hr
  obtain ⟨_, c0, rfl, ⟨y0, rfl, q0⟩, hf1⟩ := fits_cons hf0
  obtain ⟨_, c1, rfl, ⟨y1, rfl, q1⟩, hf2⟩ := fits_cons hf1
  obtain ⟨_, c2, rfl, ⟨y2, rfl, q2⟩, hf3⟩ := fits_cons hf2
  obtain ⟨_, c3, rfl, ⟨y3, rfl, q3⟩, hf4⟩ := fits_cons hf3
  obtain ⟨_, c4, rfl, ⟨y4, rfl, q4⟩, hf5⟩ := fits_cons hf4
  obtain ⟨_, c5, rfl, ⟨y5, rfl, q5⟩, hf6⟩ := fits_cons hf5
  obtain ⟨_, c6, rfl, ⟨y6, rfl, q6⟩, hf7⟩ := fits_cons hf6
  have e : c6 = [] := List.length_eq_zero_iff.1 (by simpa using hl)
  subst e
  exact ⟨(y0, y1, y2, y3, y4, y5, y6), rfl, q3, q6, q5⟩
theorem acts_shape {v : Value} {xs : List AcH} {w : World} (h : RowsArg 7 v (xs.map acHC) w) : ∃ ao cap, v = .slice ao xs.length cap := by
  rcases h with ⟨ao, cap, rfl, h⟩ | ⟨b, off, cap, rfl, _⟩
  · have : xs = [] := by simpa using h
    subst this
    exact ⟨ao, cap, rfl⟩
  · exact ⟨_, cap, by rw [List.length_map]⟩
theorem act_at {ao : Option Addr} {cap j : Nat} {xs : List AcH} {w : World} (h : RowsArg 7 (.slice ao xs.length cap) (xs.map acHC) w) {a : AcH} (hj : xs[j]? = some a) :
    ∃ b off, ao = some ⟨b, off, none⟩ ∧ b < w.heap.size ∧ w.cell? ⟨b, off + j * 7, none⟩ = some (.int .i64 a.1) ∧ w.cell? ⟨b, off + j * 7 + 1, none⟩ = some (.int .i64 a.2.1) ∧ w.cell? ⟨b, off + j * 7 + 2, none⟩ = some (.int .i64 a.2.2.1) ∧ w.cell? ⟨b, off + j * 7 + 3, none⟩ = some (.string a.2.2.2.1) ∧
      w.cell? ⟨b, off + j * 7 + 4, none⟩ = some (.int .i64 a.2.2.2.2.1) ∧ w.cell? ⟨b, off + j * 7 + 5, none⟩ = some (.int .i64 a.2.2.2.2.2.1) ∧ w.cell? ⟨b, off + j * 7 + 6, none⟩ = some (.string a.2.2.2.2.2.2) := by
  rcases h with ⟨ao', cap', he, h⟩ | ⟨b, off, cap', he, hb, hr⟩
  · have : xs = [] := by simpa using h
    subst this
    simp at hj
  · injection he with he1
    subst he1
    have hm : (xs.map acHC)[j]? = some (acHC a) := by simp [hj]
    exact ⟨b, off, rfl, hb, hr j _ hm 0 _ rfl, hr j _ hm 1 _ rfl, hr j _ hm 2 _ rfl, hr j _ hm 3 _ rfl, hr j _ hm 4 _ rfl, hr j _ hm 5 _ rfl, hr j _ hm 6 _ rfl⟩
theorem not_longH {a : AcH} (h : longH a = false) : a.2.2.2.1.size ≤ 300 ∧ a.2.2.2.2.2.2.size ≤ 300 := by
  unfold longH at h
  rw [Bool.or_eq_false_iff, decide_eq_false_iff_not, decide_eq_false_iff_not] at h
  omega

end Go.Proofs.YtimhgbcanmgajaaGreat

namespace Go.Proofs.YtimhgbcanmgajaaGreat
set_option linter.unusedSimpArgs false
set_option maxRecDepth 100000
open Go.RowKit

def PairH (B : Nat) (X : Nat → Prop) (K h g : Nat) (H G : He) (w : World) : Prop :=
  ∃ S T : Nat → Prop, HpS S K h H w ∧ HpS T K g G w ∧ (∀ b, S b → ¬ T b) ∧ ∀ b, S b ∨ T b → B ≤ b ∧ ¬ X b ∧ b < w.heap.size
theorem PairH.on {B K h g : Nat} {X : Nat → Prop} {H G : He} {a c : World} (p : PairH B X K h g H G a) (k : Below a.heap.size a c) : PairH B X K h g H G c := by
  obtain ⟨S, T, p1, p2, hd, hs⟩ := p
  exact ⟨S, T, p1.on k, p2.on k, hd, fun b hb => ⟨(hs b hb).1, (hs b hb).2.1, Nat.lt_of_lt_of_le (hs b hb).2.2 k.size⟩⟩
theorem PairH.swap {B K h g : Nat} {X : Nat → Prop} {H G : He} {w : World} (p : PairH B X K h g H G w) : PairH B X K g h G H w := by
  obtain ⟨S, T, p1, p2, hd, hs⟩ := p
  exact ⟨T, S, p2, p1, fun b h1 h2 => hd b h2 h1, fun b hb => hs b hb.symm⟩
theorem PairH.more {B K J h g : Nat} {X : Nat → Prop} {H G : He} {w : World} (p : PairH B X K h g H G w) (hJ : K ≤ J) : PairH B X J h g H G w := by
  obtain ⟨S, T, p1, p2, hd, hs⟩ := p
  exact ⟨S, T, p1.more hJ, p2.more hJ, hd, hs⟩
/-- other blocks of the law's -/
theorem PairH.law {B K h g : Nat} {X Y : Nat → Prop} {H G : He} {w : World} (p : PairH B X K h g H G w) (hY : ∀ b, b < w.heap.size → Y b → X b) : PairH B Y K h g H G w := by
  obtain ⟨S, T, p1, p2, hd, hs⟩ := p
  exact ⟨S, T, p1, p2, hd, fun b hb => ⟨(hs b hb).1, fun hy => (hs b hb).2.1 (hY b (hs b hb).2.2 hy), (hs b hb).2.2⟩⟩
theorem PairH.one {B K h g : Nat} {X : Nat → Prop} {H G : He} {w : World} (p : PairH B X K h g H G w) : ∃ S, HpS S K h H w := by
  obtain ⟨S, T, p1, _⟩ := p
  exact ⟨S, p1⟩
/-- a call on the first one -/
theorem pair_call {B K J h g : Nat} {X : Nat → Prop} {H H' G : He} {w : World} {F : Nat} {args : Array Value} {res : Value} (p : PairH B X K h g H G w) (hJ : K ≤ J) (hB : B ≤ w.heap.size) (hX : ∀ b, X b → b < w.heap.size)
    (c : ∀ S, HpS S K h H w → Calls Tryz.prog F args w fun e w' => e = .returned res ∧ HpS (Up S w) J h H' w' ∧ Keep S w w') :
    Calls Tryz.prog F args w fun e w' => e = .returned res ∧ PairH B X J h g H' G w' ∧ Keep (fun b => B ≤ b ∧ ¬ X b) w w' := by
  obtain ⟨S, T, p1, p2, hd, hs⟩ := p
  refine (c S p1).mono ?_
  rintro e w' ⟨rfl, q, k⟩
  have hz := k.size
  refine ⟨rfl, ⟨fun b => (S b ∨ w.heap.size ≤ b) ∧ b < w'.heap.size, T, q.mono (fun b hb h => ⟨h, hb⟩), (p2.more hJ).keep k (fun b _ ht h => hd b h ht), fun b h ht => ?_, fun b hb => ?_⟩, k.mono (fun b _ h => ⟨(hs b (.inl h)).1, (hs b (.inl h)).2.1⟩)⟩
  · rcases h.1 with h1 | h1
    · exact hd b h1 ht
    · have := (hs b (.inr ht)).2.2
      omega
  · rcases hb with ⟨h1 | h1, h2⟩ | h1
    · exact ⟨(hs b (.inl h1)).1, (hs b (.inl h1)).2.1, h2⟩
    · exact ⟨by omega, fun hx => by have := hX b hx; omega, h2⟩
    · have := hs b (.inr h1)
      exact ⟨this.1, this.2.1, by omega⟩

/-- an act's cells, and that it may be read -/
def BoxH (g : Nat) (a : AcH) (w : World) : Prop := g < w.heap.size ∧ w.cell? ⟨g, 0, none⟩ = some (.int .i64 a.1) ∧ w.cell? ⟨g, 1, none⟩ = some (.int .i64 a.2.1) ∧ w.cell? ⟨g, 2, none⟩ = some (.int .i64 a.2.2.1) ∧ w.cell? ⟨g, 3, none⟩ = some (.string a.2.2.2.1) ∧ w.cell? ⟨g, 4, none⟩ = some (.int .i64 a.2.2.2.2.1) ∧ w.cell? ⟨g, 5, none⟩ = some (.int .i64 a.2.2.2.2.2.1) ∧ w.cell? ⟨g, 6, none⟩ = some (.string a.2.2.2.2.2.2)
theorem boxH_on {g : Nat} {a : AcH} {x y : World} (h : BoxH g a x) (k : Below x.heap.size x y) : BoxH g a y := by
  obtain ⟨h0, h7, h1, h2, h3, h4, h5, h6⟩ := h
  exact ⟨Nat.lt_of_lt_of_le h0 k.size, hcell_on h7 h0 k, hcell_on h1 h0 k, hcell_on h2 h0 k, hcell_on h3 h0 k, hcell_on h4 h0 k, hcell_on h5 h0 k, hcell_on h6 h0 k⟩
theorem boxH_keep {S : Nat → Prop} {g : Nat} {a : AcH} {x y : World} (h : BoxH g a x) (k : Keep S x y) (hs : ¬ S g) : BoxH g a y := by
  obtain ⟨h0, h7, h1, h2, h3, h4, h5, h6⟩ := h
  exact ⟨Nat.lt_of_lt_of_le h0 k.size, hcell_keep h7 h0 k hs, hcell_keep h1 h0 k hs, hcell_keep h2 h0 k hs, hcell_keep h3 h0 k hs, hcell_keep h4 h0 k hs, hcell_keep h5 h0 k hs, hcell_keep h6 h0 k hs⟩
/-- two heaps that are alike -/
def TwoH (B : Nat) (X : Nat → Prop) (K h g : Nat) (w : World) : Prop := ∃ H G, PairH B X K h g H G w ∧ Alike H G ∧ HFit H ∧ HFit G

end Go.Proofs.YtimhgbcanmgajaaGreat

namespace Go.Proofs.YtimhgbcanmgajaaGreat
set_option linter.unusedSimpArgs false
set_option linter.unusedVariables false
set_option maxRecDepth 100000
open Go.RowKit

abbrev LawB (B : Nat) (X : Nat → Prop) : Nat → Prop := fun b => B ≤ b ∧ ¬ X b
abbrev TriA (J1 K J2 h s tb g : Nat) (H G : He) (T : Tb) : (Nat → Prop) → World → Prop := Pr (Pr (fun S w => HpZ S J1 h s H w) (fun S w => TbZ S K tb s T w)) (fun S w => HpS S J2 g G w)
theorem fam_hs (K g : Nat) (G : He) : Fam (fun S w => HpS S K g G w) where
  mono := fun p hS => p.mono hS
  keep := fun p k hT => p.keep k hT
theorem fam_tri (J1 K J2 h s tb g : Nat) (H G : He) (T : Tb) : Fam (TriA J1 K J2 h s tb g H G T) := (fam_si J1 K h s tb H T).pr (fam_hs J2 g G)
section
variable {J1 K J2 h s tb g B : Nat} {H G : He} {T : Tb} {X : Nat → Prop} {w : World}
theorem tri_left {J1' K' F : Nat} {H' : He} {T' : Tb} {args : Array Value} {res : Value} (p : TriA J1 K J2 h s tb g H G T (LawB B X) w) (hX : ∀ b, X b → b < w.heap.size) (hB : B ≤ w.heap.size)
    (c : ∀ U, Pr (fun S w => HpZ S J1 h s H w) (fun S w => TbZ S K tb s T w) U w → Calls Tryz.prog F args w fun e w' => e = .returned res ∧ Pr (fun S w => HpZ S J1' h s H' w) (fun S w => TbZ S K' tb s T' w) (Up U w) w' ∧ Keep U w w') :
    Calls Tryz.prog F args w fun e w' => e = .returned res ∧ TriA J1' K' J2 h s tb g H' G T' (LawB B X) w' ∧ Keep (LawB B X) w w' ∧ Below B w w' :=
  (Pr.left (E := fun e => e = .returned res) (fam_si J1' K' h s tb H' T') (fam_hs J2 g G) p c).mono fun e w' q => ⟨q.1, law_step (fam_tri J1' K' J2 h s tb g H' G T') hX hB q.2⟩
theorem tri_heap {J1' F : Nat} {H' : He} {args : Array Value} {res : Value} (p : TriA J1 K J2 h s tb g H G T (LawB B X) w) (hX : ∀ b, X b → b < w.heap.size) (hB : B ≤ w.heap.size)
    (c : ∀ U, HpZ U J1 h s H w → Calls Tryz.prog F args w fun e w' => e = .returned res ∧ HpZ (Up U w) J1' h s H' w' ∧ Keep U w w') :
    Calls Tryz.prog F args w fun e w' => e = .returned res ∧ TriA J1' K J2 h s tb g H' G T (LawB B X) w' ∧ Keep (LawB B X) w w' ∧ Below B w w' :=
  tri_left p hX hB (fun U q => Pr.left (E := fun e => e = .returned res) (fam_hp J1' h s H') (fam_tb K tb s T) q c)
theorem tri_tab {K' F : Nat} {T' : Tb} {args : Array Value} {res : Value} (p : TriA J1 K J2 h s tb g H G T (LawB B X) w) (hX : ∀ b, X b → b < w.heap.size) (hB : B ≤ w.heap.size)
    (c : ∀ U, TbZ U K tb s T w → Calls Tryz.prog F args w fun e w' => e = .returned res ∧ TbZ (Up U w) K' tb s T' w' ∧ Keep U w w') :
    Calls Tryz.prog F args w fun e w' => e = .returned res ∧ TriA J1 K' J2 h s tb g H G T' (LawB B X) w' ∧ Keep (LawB B X) w w' ∧ Below B w w' :=
  tri_left p hX hB (fun U q => Pr.right (E := fun e => e = .returned res) (fam_hp J1 h s H) (fam_tb K' tb s T') q c)
theorem tri_right {J2' F : Nat} {G' : He} {args : Array Value} {res : Value} (p : TriA J1 K J2 h s tb g H G T (LawB B X) w) (hX : ∀ b, X b → b < w.heap.size) (hB : B ≤ w.heap.size)
    (c : ∀ U, HpS U J2 g G w → Calls Tryz.prog F args w fun e w' => e = .returned res ∧ HpS (Up U w) J2' g G' w' ∧ Keep U w w') :
    Calls Tryz.prog F args w fun e w' => e = .returned res ∧ TriA J1 K J2' h s tb g H G' T (LawB B X) w' ∧ Keep (LawB B X) w w' ∧ Below B w w' :=
  (Pr.right (E := fun e => e = .returned res) (fam_si J1 K h s tb H T) (fam_hs J2' g G') p c).mono fun e w' q => ⟨q.1, law_step (fam_tri J1 K J2' h s tb g H G' T) hX hB q.2⟩
theorem TriA.more {S : Nat → Prop} {J1' K' J2' : Nat} (p : TriA J1 K J2 h s tb g H G T S w) (a : J1 ≤ J1') (b : K ≤ K') (c : J2 ≤ J2') : TriA J1' K' J2' h s tb g H G T S w := by
  obtain ⟨U, V, ⟨U', V', q1, q2, q3, q4⟩, p2, p3, p4⟩ := p
  exact ⟨U, V, ⟨U', V', q1.more a, q2.more b, q3, q4⟩, p2.more c, p3, p4⟩
theorem TriA.one {S : Nat → Prop} (p : TriA J1 K J2 h s tb g H G T S w) : ∃ U, HpS U J1 h H w := by
  obtain ⟨U, q⟩ := p.fst
  obtain ⟨V, r⟩ := q.fst
  exact ⟨V, r.s⟩
theorem TriA.two {S : Nat → Prop} (p : TriA J1 K J2 h s tb g H G T S w) : ∃ U, HpS U J2 g G w := p.snd
theorem zflush {U : Nat → Prop} (b : TbZ U K tb s T w) (ok : TbOk H T) (f : Int) :
    Calls Tryz.prog 25 #[.pointer (some ⟨tb, 0, none⟩), .int .i64 f] w fun e w' => e = .returned (.tuple #[]) ∧ TbZ (Up U w) K tb s (flushT T f false) w' ∧ Keep U w w' := by
  obtain ⟨n, g, cap, fs, col, q, hs⟩ := b
  exact (sflushT_calls w q ok f).mono fun e w' ⟨h1, ⟨fs', q'⟩, G⟩ => ⟨h1, tb_done q' G (fun u h => h) hs⟩
theorem zmega {U : Nat → Prop} (b : TbZ U K tb s T w) (f : Int) :
    Calls Tryz.prog 26 #[.pointer (some ⟨tb, 0, none⟩), .int .i64 f] w fun e w' => e = .returned (.tuple #[]) ∧ TbZ (Up U w) K tb s (flushT T f true) w' ∧ Keep U w w' := by
  obtain ⟨n, g, cap, fs, col, q, hs⟩ := b
  exact (smega_calls w q f).mono fun e w' ⟨h1, fs', q', G⟩ => ⟨h1, tb_done q' G (fun u h => by omega) hs⟩
end
/-- two heaps that are alike, the first one with sites -/
def StaH (B : Nat) (X : Nat → Prop) (k h s tb g : Nat) (w : World) : Prop := ∃ H G T, TriA (40 + k) (2 * k) (40 + k) h s tb g H G T (LawB B X) w ∧ Alike H G ∧ HFit H ∧ HFit G ∧ TbOk H T
theorem StaH.on {B k h s tb g : Nat} {X : Nat → Prop} {a c : World} (p : StaH B X k h s tb g a) (q : Below a.heap.size a c) : StaH B X k h s tb g c := by
  obtain ⟨H, G, T, p, r⟩ := p
  exact ⟨H, G, T, (fam_tri _ _ _ _ _ _ _ _ _ _).on p q, r⟩
theorem StaH.law {B k h s tb g : Nat} {X Y : Nat → Prop} {w : World} (p : StaH B X k h s tb g w) (hY : ∀ b, b < w.heap.size → Y b → X b) : StaH B Y k h s tb g w := by
  obtain ⟨H, G, T, p, r⟩ := p
  exact ⟨H, G, T, (fam_tri _ _ _ _ _ _ _ _ _ _).mono p (fun b hb e => ⟨e.1, fun hy => e.2 (hY b hb hy)⟩), r⟩
/-- an act's cells -/
def BoxS (g : Nat) (a : AcS) (w : World) : Prop := g < w.heap.size ∧ w.cell? ⟨g, 0, none⟩ = some (.int .i64 a.d) ∧ w.cell? ⟨g, 1, none⟩ = some (.int .i64 a.f) ∧ w.cell? ⟨g, 2, none⟩ = some (.int .i64 a.s) ∧ w.cell? ⟨g, 3, none⟩ = some (.int .i64 a.a) ∧ w.cell? ⟨g, 4, none⟩ = some (.int .i64 a.b) ∧ w.cell? ⟨g, 5, none⟩ = some (.string a.n) ∧ w.cell? ⟨g, 6, none⟩ = some (.int .i64 a.v.1) ∧ w.cell? ⟨g, 7, none⟩ = some (.int .i64 a.v.2.1) ∧ w.cell? ⟨g, 8, none⟩ = some (.string a.v.2.2)
theorem boxS_keep {S : Nat → Prop} {g : Nat} {a : AcS} {x y : World} (h : BoxS g a x) (k : Keep S x y) (hs : ¬ S g) : BoxS g a y := by
  obtain ⟨h0, h1, h2, h3, h4, h5, h6, h7, h8, h9⟩ := h
  exact ⟨Nat.lt_of_lt_of_le h0 k.size, hcell_keep h1 h0 k hs, hcell_keep h2 h0 k hs, hcell_keep h3 h0 k hs, hcell_keep h4 h0 k hs, hcell_keep h5 h0 k hs, hcell_keep h6 h0 k hs, hcell_keep h7 h0 k hs, hcell_keep h8 h0 k hs, hcell_keep h9 h0 k hs⟩
theorem boxS_on {g : Nat} {a : AcS} {x y : World} (h : BoxS g a x) (k : Below x.heap.size x y) : BoxS g a y := boxS_keep h (Keep.of (S := fun _ => False) k) (fun e => e)
theorem ssites_calls (w : World) : Calls Tryz.prog 10 #[] w fun e w' => e = .returned (.slice (some ⟨w.heap.size, 0, none⟩) 3 3) ∧ w' = w.alloc (.cells #[.int .i64 3, .int .i64 2, .int .i64 (-1)] 3) := by
  go_enter Tryz.func10, Tryz.ntmps10
  go_wp2_with fail
  go_ret
  exact ⟨rfl, rfl⟩
end Go.Proofs.YtimhgbcanmgajaaGreat
