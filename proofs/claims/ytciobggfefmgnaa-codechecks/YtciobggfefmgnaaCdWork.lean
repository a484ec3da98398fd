/- The law's own test. -/
import Derived.Test.YtciobggfefmgnaaCdChk
namespace Go.Proofs.Ytciobggfefmgnaa
set_option linter.unusedSimpArgs false
set_option linter.unusedVariables false
set_option maxRecDepth 100000
open Go.RowKit

def cdP : Cd := ⟨0, 0, 0, 1, [(2, 0, 0), (32, 0, 0)]⟩
def cdQ : Cd := ⟨0, 0, 0, 1, [(31, 0, 0), (2, 0, 0), (32, 0, 0)]⟩
def pgP : Pg := ⟨0, [], [cdP]⟩
def pgQ : Pg := ⟨0, [], [cdQ]⟩
theorem pgP_ok : checkP pgP := by
  refine ⟨by decide, fun c hc => ?_⟩
  obtain rfl : c = cdP := by simpa [pgP] using hc
  refine ⟨by decide, [0, 1], rfl, rfl, fun k d hk => .inr ?_⟩
  match k, hk with
  | 0, hk =>
    obtain rfl := Option.some.inj hk
    refine ⟨by decide, ⟨by decide, fun t e h => ?_⟩, 0, rfl, rfl⟩
    have h' : (t, e) ∈ [((1 : Int), (1 : Int))] := h
    simp at h'
    obtain ⟨rfl, rfl⟩ := h'
    exact ⟨by decide, 1, rfl, rfl⟩
  | 1, hk =>
    obtain rfl := Option.some.inj hk
    refine ⟨by decide, ⟨by decide, fun t e h => ?_⟩, 1, 0, 0, ⟨rfl, rfl⟩, ?_⟩
    · cases (show (t, e) ∈ ([] : List (Int × Int)) from h)
    · exact List.mem_singleton.2 rfl
  | k + 2, hk => exact absurd hk (by simp)
theorem pgQ_no : ¬ checkP pgQ := fun h => by
  obtain ⟨_, ds, hF⟩ := h.2 cdQ (by simp [pgQ])
  exact no_pop (c := cdQ) (n := 0) (k := 0) (d := 0) ⟨rfl, rfl⟩ (by decide) ds hF
theorem pgIn_one {B b g : Nat} {c : Cd} {w : World} {T T' : TypeId} (hb : Blk b T (c.ins.flatMap fun x => [Value.int .i64 x.1, Value.int .i64 x.2.1, Value.int .i64 x.2.2]).toArray w) (hg : Blk g T' #[.int .i64 c.p, .int .i64 c.l, .int .i64 c.s, .int .i64 c.d, .slice (some ⟨b, 0, none⟩) c.ins.length c.ins.length] w) (h1 : b < B) (h2 : g < B) (hl : c.ins.length ≤ 1000000)
    (hat : ∀ (i : Nat) x, c.ins[i]? = some x → InAt b (0 + i * 3) x w) :
    PgIn B w ⟨0, [], [c]⟩ (.slice none 0 0) (.slice (some ⟨g, 0, none⟩) 1 1) :=
  ⟨.inl ⟨_, _, rfl, rfl⟩, .inr ⟨g, 0, 1, rfl, h2, fun i c' hi => by
    cases i with
    | zero =>
      obtain rfl : c' = c := by simpa using hi.symm
      exact ⟨_, blk_cellZ hg 0 rfl, blk_cellZ hg 1 rfl, blk_cellZ hg 2 rfl, blk_cellZ hg 3 rfl, blk_cellZ hg 4 rfl, .inr ⟨b, 0, _, rfl, h1, hat⟩⟩
    | succ i => simp at hi⟩, ⟨by simp, by simp⟩, fun c' hc' => by
      obtain rfl : c' = c := by simpa using hc'
      exact hl, fun s hs => by simp at hs⟩
theorem six_new (w : World) (a b c d e f : Array Value) (AA BB CC DD EE FF : TypeId) : Blk (w.heap.size) AA a ((((((w.alloc (.cells a AA)).alloc (.cells b BB)).alloc (.cells c CC)).alloc (.cells d DD)).alloc (.cells e EE)).alloc (.cells f FF)) ∧ Blk (w.heap.size + 1) BB b ((((((w.alloc (.cells a AA)).alloc (.cells b BB)).alloc (.cells c CC)).alloc (.cells d DD)).alloc (.cells e EE)).alloc (.cells f FF)) ∧ Blk (w.heap.size + 1 + 1) CC c ((((((w.alloc (.cells a AA)).alloc (.cells b BB)).alloc (.cells c CC)).alloc (.cells d DD)).alloc (.cells e EE)).alloc (.cells f FF)) ∧ Blk (w.heap.size + 1 + 1 + 1) DD d ((((((w.alloc (.cells a AA)).alloc (.cells b BB)).alloc (.cells c CC)).alloc (.cells d DD)).alloc (.cells e EE)).alloc (.cells f FF)) ∧ Blk (w.heap.size + 1 + 1 + 1 + 1) EE e ((((((w.alloc (.cells a AA)).alloc (.cells b BB)).alloc (.cells c CC)).alloc (.cells d DD)).alloc (.cells e EE)).alloc (.cells f FF)) ∧ Blk (w.heap.size + 1 + 1 + 1 + 1 + 1) FF f ((((((w.alloc (.cells a AA)).alloc (.cells b BB)).alloc (.cells c CC)).alloc (.cells d DD)).alloc (.cells e EE)).alloc (.cells f FF)) ∧ Below w.heap.size w ((((((w.alloc (.cells a AA)).alloc (.cells b BB)).alloc (.cells c CC)).alloc (.cells d DD)).alloc (.cells e EE)).alloc (.cells f FF)) ∧ ((((((w.alloc (.cells a AA)).alloc (.cells b BB)).alloc (.cells c CC)).alloc (.cells d DD)).alloc (.cells e EE)).alloc (.cells f FF)).heap.size = w.heap.size + 6 := by
  have h0 : ∀ (u : World) o, Below u.heap.size u (u.alloc o) := box_below
  have s1 : (w.alloc (.cells a AA)).heap.size = w.heap.size + 1 := by simp
  have s2 : ((w.alloc (.cells a AA)).alloc (.cells b BB)).heap.size = w.heap.size + 1 + 1 := by simp
  have s3 : (((w.alloc (.cells a AA)).alloc (.cells b BB)).alloc (.cells c CC)).heap.size = w.heap.size + 1 + 1 + 1 := by simp
  have s4 : ((((w.alloc (.cells a AA)).alloc (.cells b BB)).alloc (.cells c CC)).alloc (.cells d DD)).heap.size = w.heap.size + 1 + 1 + 1 + 1 := by simp
  have s5 : (((((w.alloc (.cells a AA)).alloc (.cells b BB)).alloc (.cells c CC)).alloc (.cells d DD)).alloc (.cells e EE)).heap.size = w.heap.size + 1 + 1 + 1 + 1 + 1 := by simp
  have s6 : ((((((w.alloc (.cells a AA)).alloc (.cells b BB)).alloc (.cells c CC)).alloc (.cells d DD)).alloc (.cells e EE)).alloc (.cells f FF)).heap.size = w.heap.size + 1 + 1 + 1 + 1 + 1 + 1 := by simp
  have q1 := blk_new w AA a
  have q2 := blk_new (w.alloc (.cells a AA)) BB b
  have q3 := blk_new ((w.alloc (.cells a AA)).alloc (.cells b BB)) CC c
  have q4 := blk_new (((w.alloc (.cells a AA)).alloc (.cells b BB)).alloc (.cells c CC)) DD d
  have q5 := blk_new ((((w.alloc (.cells a AA)).alloc (.cells b BB)).alloc (.cells c CC)).alloc (.cells d DD)) EE e
  have q6 := blk_new (((((w.alloc (.cells a AA)).alloc (.cells b BB)).alloc (.cells c CC)).alloc (.cells d DD)).alloc (.cells e EE)) FF f
  rw [s1] at q2
  rw [s2] at q3
  rw [s3] at q4
  rw [s4] at q5
  rw [s5] at q6
  exact ⟨blk_on (blk_on (blk_on (blk_on (blk_on q1 (h0 _ _)) (h0 _ _)) (h0 _ _)) (h0 _ _)) (h0 _ _), blk_on (blk_on (blk_on (blk_on q2 (h0 _ _)) (h0 _ _)) (h0 _ _)) (h0 _ _), blk_on (blk_on (blk_on q3 (h0 _ _)) (h0 _ _)) (h0 _ _), blk_on (blk_on q4 (h0 _ _)) (h0 _ _), blk_on q5 (h0 _ _), q6,
    (h0 w _).trans (((h0 _ _).mono (by omega)).trans (((h0 _ _).mono (by omega)).trans (((h0 _ _).mono (by omega)).trans (((h0 _ _).mono (by omega)).trans ((h0 _ _).mono (by omega)))))), by omega⟩
theorem pgIn_P {B b g : Nat} {w : World} (hb : Blk b 41 #[.int .i64 2, .int .i64 0, .int .i64 0, .int .i64 32, .int .i64 0, .int .i64 0] w) (hg : Blk g 37 #[.int .i64 0, .int .i64 0, .int .i64 0, .int .i64 1, .slice (some ⟨b, 0, none⟩) 2 2] w) (h1 : b < B) (h2 : g < B) : PgIn B w pgP (.slice none 0 0) (.slice (some ⟨g, 0, none⟩) 1 1) :=
  pgIn_one (c := cdP) hb hg h1 h2 (by decide) fun i x hi => by
    match i, hi with
    | 0, hi => obtain rfl := Option.some.inj hi; exact ⟨blk_cellZ hb 0 rfl, blk_cellZ hb 1 rfl, blk_cellZ hb 2 rfl⟩
    | 1, hi => obtain rfl := Option.some.inj hi; exact ⟨blk_cellZ hb 3 rfl, blk_cellZ hb 4 rfl, blk_cellZ hb 5 rfl⟩
    | i + 2, hi => exact absurd hi (by simp [cdP])
theorem pgIn_Q {B b g : Nat} {w : World} (hb : Blk b 41 #[.int .i64 31, .int .i64 0, .int .i64 0, .int .i64 2, .int .i64 0, .int .i64 0, .int .i64 32, .int .i64 0, .int .i64 0] w) (hg : Blk g 37 #[.int .i64 0, .int .i64 0, .int .i64 0, .int .i64 1, .slice (some ⟨b, 0, none⟩) 3 3] w) (h1 : b < B) (h2 : g < B) : PgIn B w pgQ (.slice none 0 0) (.slice (some ⟨g, 0, none⟩) 1 1) :=
  pgIn_one (c := cdQ) hb hg h1 h2 (by decide) fun i x hi => by
    match i, hi with
    | 0, hi => obtain rfl := Option.some.inj hi; exact ⟨blk_cellZ hb 0 rfl, blk_cellZ hb 1 rfl, blk_cellZ hb 2 rfl⟩
    | 1, hi => obtain rfl := Option.some.inj hi; exact ⟨blk_cellZ hb 3 rfl, blk_cellZ hb 4 rfl, blk_cellZ hb 5 rfl⟩
    | 2, hi => obtain rfl := Option.some.inj hi; exact ⟨blk_cellZ hb 6 rfl, blk_cellZ hb 7 rfl, blk_cellZ hb 8 rfl⟩
    | i + 3, hi => exact absurd hi (by simp [cdQ])
set_option maxHeartbeats 3200000 in
theorem works14_calls (w : World) : Calls Try.prog 8 #[] w fun e w' => e = .returned (.bool true) ∧ Below w.heap.size w w' := by
  have EF := hid (effect_calls 28 2 0)
  rw [show effI 28 2 = (4, 1) from rfl] at EF
  have C1 := hid (fun B W hB hP => ccheck_calls B pgP (.slice none 0 0) (.slice (some ⟨w.heap.size + 1, 0, none⟩) 1 1) W hB hP)
  have C2 := hid (fun B W hB hP => ccheck_calls B pgQ (.slice none 0 0) (.slice (some ⟨w.heap.size + 1 + 1 + 1 + 1, 0, none⟩) 1 1) W hB hP)
  have SIX := six_new w #[.int .i64 2, .int .i64 0, .int .i64 0, .int .i64 32, .int .i64 0, .int .i64 0] #[.int .i64 0, .int .i64 0, .int .i64 0, .int .i64 1, .slice (some ⟨w.heap.size, 0, none⟩) 2 2] #[.int .i64 0, .slice none 0 0, .slice (some ⟨w.heap.size + 1, 0, none⟩) 1 1] #[.int .i64 31, .int .i64 0, .int .i64 0, .int .i64 2, .int .i64 0, .int .i64 0, .int .i64 32, .int .i64 0, .int .i64 0] #[.int .i64 0, .int .i64 0, .int .i64 0, .int .i64 1, .slice (some ⟨w.heap.size + 1 + 1 + 1, 0, none⟩) 3 3] #[.int .i64 0, .slice none 0 0, .slice (some ⟨w.heap.size + 1 + 1 + 1 + 1, 0, none⟩) 1 1] 41 37 25 41 37 25
  go_enter Try.func8, Try.ntmps8
  go_upto_region 3 with fail
  generalize hW : (((((w.alloc (.cells #[.int .i64 2, .int .i64 0, .int .i64 0, .int .i64 32, .int .i64 0, .int .i64 0] 41)).alloc (.cells #[.int .i64 0, .int .i64 0, .int .i64 0, .int .i64 1, .slice (some ⟨w.heap.size, 0, none⟩) 2 2] 37)).alloc (.cells #[.int .i64 0, .slice none 0 0, .slice (some ⟨w.heap.size + 1, 0, none⟩) 1 1] 25)).alloc (.cells #[.int .i64 31, .int .i64 0, .int .i64 0, .int .i64 2, .int .i64 0, .int .i64 0, .int .i64 32, .int .i64 0, .int .i64 0] 41)).alloc (.cells #[.int .i64 0, .int .i64 0, .int .i64 0, .int .i64 1, .slice (some ⟨w.heap.size + 1 + 1 + 1, 0, none⟩) 3 3] 37)).alloc (.cells #[.int .i64 0, .slice none 0 0, .slice (some ⟨w.heap.size + 1 + 1 + 1 + 1, 0, none⟩) 1 1] 25) = w6 at *
  obtain ⟨q1, q2, q3, q4, q5, q6, AL, hs6⟩ := SIX
  have Q1 := hid q1
  have Q2 := hid q2
  have Q3 := hid q3
  have Q4 := hid q4
  have Q5 := hid q5
  have Q6 := hid q6
  have A6 := hid AL
  clear q1 q2 q3 q4 q5 q6 AL hW
  go_wp2_with fail
  refine (EF.out _).mono ?_
  rintro e w7 ⟨rfl, b7⟩
  have hs7 := b7.size
  replace Q1 := hid (blk_on Q1.out b7)
  replace Q2 := hid (blk_on Q2.out b7)
  replace Q3 := hid (blk_on Q3.out b7)
  replace Q4 := hid (blk_on Q4.out b7)
  replace Q5 := hid (blk_on Q5.out b7)
  replace Q6 := hid (blk_on Q6.out b7)
  replace A6 := hid (A6.out.trans (b7.mono (by omega)))
  clear b7
  have p0 : w7.cell? ⟨w.heap.size + 1 + 1, 0, none⟩ = some (.int .i64 0) := blk_cellZ Q3.out 0 rfl
  have p1 : w7.cell? ⟨w.heap.size + 1 + 1, 1, none⟩ = some (.slice none 0 0) := blk_cellZ Q3.out 1 rfl
  have p2 : w7.cell? ⟨w.heap.size + 1 + 1, 2, none⟩ = some (.slice (some ⟨w.heap.size + 1, 0, none⟩) 1 1) := blk_cellZ Q3.out 2 rfl
  go_wp2_with fail
  refine (C1.out w7.heap.size w7 (Nat.le_refl _) (pgIn_P Q1.out Q2.out (by omega) (by omega))).mono ?_
  rintro e w8 ⟨⟨r, rfl, hr⟩, b8⟩
  obtain rfl : r = 0 := by
    rcases hr with ⟨h, _⟩ | ⟨_, h⟩
    · exact h
    · exact absurd pgP_ok h
  clear hr p0 p1 p2
  have hs8 := b8.size
  replace Q4 := hid (blk_on Q4.out b8)
  replace Q5 := hid (blk_on Q5.out b8)
  replace Q6 := hid (blk_on Q6.out b8)
  replace A6 := hid (A6.out.trans (b8.mono (by omega)))
  clear b8
  have p0 : w8.cell? ⟨w.heap.size + 1 + 1 + 1 + 1 + 1, 0, none⟩ = some (.int .i64 0) := blk_cellZ Q6.out 0 rfl
  have p1 : w8.cell? ⟨w.heap.size + 1 + 1 + 1 + 1 + 1, 1, none⟩ = some (.slice none 0 0) := blk_cellZ Q6.out 1 rfl
  have p2 : w8.cell? ⟨w.heap.size + 1 + 1 + 1 + 1 + 1, 2, none⟩ = some (.slice (some ⟨w.heap.size + 1 + 1 + 1 + 1, 0, none⟩) 1 1) := blk_cellZ Q6.out 2 rfl
  go_wp2_with fail
  refine (C2.out w8.heap.size w8 (Nat.le_refl _) (pgIn_Q Q4.out Q5.out (by omega) (by omega))).mono ?_
  rintro e w9 ⟨⟨r, rfl, hr⟩, b9⟩
  obtain rfl : r = 16 := by
    rcases hr with ⟨_, h⟩ | ⟨h, _⟩
    · exact absurd h pgQ_no
    · exact h
  clear hr p0 p1 p2
  replace A6 := hid (A6.out.trans (b9.mono (by omega)))
  clear b9
  go_wp2_with fail
  go_ret
  exact ⟨rfl, A6.out⟩

end Go.Proofs.Ytciobggfefmgnaa
