/- Both dicts, from a block on. -/
import Derived.Test.YtphniknckmfilaaDcLike
namespace Go.Proofs.Ytphniknckmfilaa
set_option linter.unusedSimpArgs false
open Go.RowKit

/-- both dicts, in blocks from B on -/
def Own2 (B d r n : Nat) (ld lr : List Ent) (w : World) : Prop := ∃ S R, Pair S R d r n ld lr w ∧ ∀ b, S b ∨ R b → B ≤ b
theorem Own2.on {B d r n : Nat} {ld lr : List Ent} {a c : World} (h : Own2 B d r n ld lr a) (k : Below a.heap.size a c) : Own2 B d r n ld lr c := by
  obtain ⟨S, R, h1, h2⟩ := h
  exact ⟨S, R, h1.on k, h2⟩
theorem own2_new {B d : Nat} {w : World} (h : DcS (fun b => B ≤ b) d 0 [] w) (hB : B ≤ w.heap.size) : Own2 B d w.heap.size 0 [] [] (w.alloc (.cells #[.slice none 0 0, .slice none 0 0] 29)) := by
  have A := (Below.refl w.heap.size w).alloc (Nat.le_refl _) (.cells #[.slice none 0 0, .slice none 0 0] 29)
  refine ⟨fun b => B ≤ b ∧ b < w.heap.size, fun b => b = w.heap.size, ⟨(h.mono (fun b hb hs => ⟨hs, hb⟩) (Nat.le_refl _)).on A, ⟨_, _, refnew w, ?_, List.nodup_nil, by simp⟩, fun b hb e => by omega, fun b hb => ?_⟩, fun b hb => ?_⟩
  · rintro b (rfl | hb | hb)
    · rfl
    · simp [Value.ownBlock] at hb
    · simp [Value.ownBlock] at hb
  · have : (w.alloc (.cells #[.slice none 0 0, .slice none 0 0] 29)).heap.size = w.heap.size + 1 := by simp
    rcases hb with hb | hb <;> omega
  · rcases hb with hb | hb <;> omega
theorem done0 {B d r n : Nat} {ld lr : List Ent} (w : World) (h : Own2 B d r n ld lr w) (hB : B ≤ w.heap.size) (hn : n ≤ 1000000) (hl : lr.length < 1000000) (a : Ac) (hs : a.2.1.size ≤ 1000000) :
    Calls Try.prog 10 #[.pointer (some ⟨d, 0, none⟩), .pointer (some ⟨r, 0, none⟩), .agg #[.int .i64 a.1, .string a.2.1, .int .i64 a.2.2.1, .int .i64 a.2.2.2.1, .string a.2.2.2.2]] w fun e w' =>
      (∃ q, e = .returned (.bool q) ∧ (ld = lr → q = true)) ∧ Own2 B d r (n + 1) (doL ld a) (doL lr a) w' ∧ Below B w w' := by
  obtain ⟨S, R, h1, h2⟩ := h
  refine (done_calls w h1 hn hl a hs).mono fun e w' q => ⟨q.1, ?_, ?_⟩
  · obtain ⟨S', R', p, x1, x2, _⟩ := q.2
    refine ⟨S', R', p, fun b hb => ?_⟩
    rcases hb with hb | hb
    · rcases x1 b hb with h | h
      · exact h2 b (.inl h)
      · omega
    · rcases x2 b hb with h | h
      · exact h2 b (.inr h)
      · omega
  · obtain ⟨S', R', p, x1, x2, k⟩ := q.2
    exact k.below hB (fun b hb => h2 b hb)
theorem like0 {B d r n : Nat} {l : List Ent} (w : World) (h : Own2 B d r n l l w) (hn : n ≤ 1000000) :
    Calls Try.prog 11 #[.pointer (some ⟨d, 0, none⟩), .pointer (some ⟨r, 0, none⟩)] w fun e w' => e = .returned (.bool true) ∧ Below w.heap.size w w' := by
  obtain ⟨S, R, h1, _⟩ := h
  exact like_calls w h1 hn
theorem own2_len {B d r n : Nat} {ld lr : List Ent} {w : World} (h : Own2 B d r n ld lr w) : ld.length ≤ n := by
  obtain ⟨S, R, h1, _⟩ := h
  exact h1.ds.once.2

/-- a dict that goes on, and two others that stay -/
def Own3 (B d c r n : Nat) (ld l : List Ent) (w : World) : Prop := ∃ S T R, DcS S d n ld w ∧ Pair T R c r n l l w ∧ (∀ b, S b → B ≤ b ∧ b < w.heap.size ∧ ¬ T b ∧ ¬ R b)
theorem Own3.on {B d c r n : Nat} {ld l : List Ent} {a e : World} (h : Own3 B d c r n ld l a) (k : Below a.heap.size a e) : Own3 B d c r n ld l e := by
  obtain ⟨S, T, R, h1, h2, h3⟩ := h
  exact ⟨S, T, R, h1.on k, h2.on k, fun b hb => ⟨(h3 b hb).1, Nat.lt_of_lt_of_le (h3 b hb).2.1 k.size, (h3 b hb).2.2⟩⟩
theorem own3_clone {B d c r n : Nat} {l : List Ent} {w w' : World} (h : Own2 B d r n l l w) (hc : DcS (fun b => w.heap.size ≤ b) c n l w') (k : Below w.heap.size w w') : Own3 B d c r n l l w' := by
  obtain ⟨S, R, h1, h2⟩ := h
  have hs := k.size
  refine ⟨S, fun b => w.heap.size ≤ b ∧ b < w'.heap.size, R, h1.ds.on k, ⟨hc.mono (fun b hb h => ⟨h, hb⟩) (Nat.le_refl _), (h1.on k).rs, fun b hb hr => ?_, fun b hb => ?_⟩, fun b hb => ⟨h2 b (.inl hb), ?_, fun h => ?_, h1.dj b hb⟩⟩
  · have := h1.lt b (.inr hr); omega
  · rcases hb with hb | hb
    · exact hb.2
    · have := h1.lt b (.inr hb); omega
  · have := h1.lt b (.inl hb); omega
  · have := h1.lt b (.inl hb); omega
theorem done3 {B d c r n : Nat} {ld l : List Ent} (w : World) (h : Own3 B d c r n ld l w) (hB : B ≤ w.heap.size) (hn : n ≤ 1000000) (a : Ac) (hs : a.2.1.size ≤ 1000000) :
    Calls Try.prog 10 #[.pointer (some ⟨d, 0, none⟩), .pointer (some ⟨w.heap.size, 0, none⟩), .agg #[.int .i64 a.1, .string a.2.1, .int .i64 a.2.2.1, .int .i64 a.2.2.2.1, .string a.2.2.2.2]] (w.alloc (.cells #[.slice none 0 0, .slice none 0 0] 29)) fun e w' =>
      (∃ q, e = .returned (.bool q)) ∧ Own3 B d c r (n + 1) (doL ld a) l w' ∧ Below B w w' := by
  obtain ⟨S, T, R, h1, h2, h3⟩ := h
  have A := (Below.refl w.heap.size w).alloc (Nat.le_refl _) (.cells #[.slice none 0 0, .slice none 0 0] 29)
  have hsz : (w.alloc (.cells #[.slice none 0 0, .slice none 0 0] 29)).heap.size = w.heap.size + 1 := by simp
  have P : Pair S (fun b => b = w.heap.size) d w.heap.size n ld [] (w.alloc (.cells #[.slice none 0 0, .slice none 0 0] 29)) := by
    refine ⟨h1.on A, ⟨_, _, refnew w, ?_, List.nodup_nil, by simp⟩, fun b hb e => ?_, fun b hb => ?_⟩
    · rintro b (rfl | hb | hb)
      · rfl
      · simp [Value.ownBlock] at hb
      · simp [Value.ownBlock] at hb
    · have := (h3 b hb).2.1; omega
    · rcases hb with hb | hb
      · have := (h3 b hb).2.1; omega
      · omega
  refine (done_calls _ P hn (by simp) a hs).mono fun e w' q => ?_
  obtain ⟨⟨q1, hq, _⟩, S', R', p, x1, x2, k⟩ := q
  have hk := k.size
  have K : Keep (SR S (fun b => b = w.heap.size)) w w' := (Keep.of A).trans k (fun _ _ h => h)
  refine ⟨⟨q1, hq⟩, ⟨S', T, R, p.ds, ?_, fun b hb => ?_⟩, ?_⟩
  · have := h2.keep K (fun b hb hs => by
      rcases hs with hs | hs
      · rcases hb with hb | hb
        · exact (h3 b hs).2.2.1 hb
        · exact (h3 b hs).2.2.2 hb
      · have := h2.lt b hb; omega)
    exact ⟨this.ds.mono (fun _ _ h => h) (by omega), this.rs, this.dj, this.lt⟩
  · have hl := p.lt b (.inl hb)
    rcases x1 b hb with h | h
    · exact ⟨(h3 b h).1, hl, (h3 b h).2.2⟩
    · refine ⟨by omega, hl, fun ht => ?_, fun hr => ?_⟩
      · have := h2.lt b (.inl ht); omega
      · have := h2.lt b (.inr hr); omega
  · exact K.below hB (fun b hb => by
      rcases hb with hb | hb
      · exact (h3 b hb).1
      · omega)
theorem like3 {B d c r n : Nat} {ld l : List Ent} (w : World) (h : Own3 B d c r n ld l w) (hn : n ≤ 1000000) :
    Calls Try.prog 11 #[.pointer (some ⟨c, 0, none⟩), .pointer (some ⟨r, 0, none⟩)] w fun e w' => e = .returned (.bool true) ∧ Below w.heap.size w w' := by
  obtain ⟨S, T, R, _, h1, _⟩ := h
  exact like_calls w h1 hn
theorem clone2 {B d r n : Nat} {l : List Ent} (w : World) (h : Own2 B d r n l l w) (hn : n ≤ 1000000) :
    Calls Try.prog 12 #[.pointer (some ⟨d, 0, none⟩)] w fun e w' => ∃ c, e = .returned (.pointer (some ⟨c, 0, none⟩)) ∧ Own3 B d c r n l l w' ∧ Below w.heap.size w w' := by
  obtain ⟨S, R, h1, h2⟩ := h
  refine (dclone_calls w h1.ds hn).mono fun e w' q => ?_
  obtain ⟨c, q1, q2, q3⟩ := q
  exact ⟨c, q1, own3_clone ⟨S, R, h1, h2⟩ q2 q3, q3⟩

end Go.Proofs.Ytphniknckmfilaa
