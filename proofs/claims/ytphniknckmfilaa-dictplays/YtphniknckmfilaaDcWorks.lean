/- What is set again is behind. -/
import Derived.Test.YtphniknckmfilaaDcRest
namespace Go.Proofs.Ytphniknckmfilaa
set_option linter.unusedSimpArgs false
open Go.RowKit

theorem dset0 {B d n : Nat} {l : List Ent} (w : World) (h : DcS (fun b => B ≤ b) d n l w) (hB : B ≤ w.heap.size) (hn : n ≤ 1000000) (s : ByteArray) (hs : s.size ≤ 1000000) (x : Vl) :
    Calls Try.prog 14 #[.pointer (some ⟨d, 0, none⟩), .string s, vlV x] w fun e w' => e = .returned (.bool (!hasL l s)) ∧ DcS (fun b => B ≤ b) d (n + 1) (setL l s x) w' ∧ Below B w w' :=
  (dset_calls w h hn s hs x).mono fun e w' h => ⟨h.1, h.2.1.mono (fun b _ hb => by rcases hb with hb | hb <;> omega) (Nat.le_refl _), h.2.2.below hB (fun _ h => h)⟩
theorem ddel0 {B d n : Nat} {l : List Ent} (w : World) (h : DcS (fun b => B ≤ b) d n l w) (hB : B ≤ w.heap.size) (hn : n ≤ 1000000) (s : ByteArray) (hs : s.size ≤ 1000000) :
    Calls Try.prog 17 #[.pointer (some ⟨d, 0, none⟩), .string s] w fun e w' => e = .returned (.bool (hasL l s)) ∧ DcS (fun b => B ≤ b) d n (dropL l s) w' ∧ Below B w w' :=
  (ddel_calls w h hn s hs).mono fun e w' h => ⟨h.1, h.2.1.mono (fun b _ hb => by rcases hb with hb | hb <;> omega) (Nat.le_refl _), h.2.2.below hB (fun _ h => h)⟩

set_option maxHeartbeats 1000000 in
theorem works_calls (w : World) : Calls Try.prog 9 #[] w fun e w' => e = .returned (.bool true) ∧ Below w.heap.size w w' := by
  go_enter Try.func9, Try.ntmps9
  go_wp2_with fail
  refine (new_calls _).mono ?_
  rintro e0 w0 ⟨d, rfl, h0, b0⟩
  have H0 := hid h0
  have B0 := hid b0
  have hs0 := hid b0.size
  clear h0 b0
  go_wp2_with fail
  refine (dset0 _ H0.out hs0.out (by omega) ⟨#[97]⟩ (by decide) (2, 1, ⟨#[]⟩)).mono ?_
  rintro e1 w1 ⟨rfl, h1, b1⟩
  have H1 := hid h1
  have B1 := hid (B0.out.trans b1)
  have hs1 := hid (B1.out.size)
  clear h1 b1 H0 B0 hs0
  go_wp2_with fail
  refine (dset0 _ H1.out hs1.out (by omega) ⟨#[98]⟩ (by decide) (0, 0, ⟨#[]⟩)).mono ?_
  rintro e2 w2 ⟨rfl, h2, b2⟩
  have H2 := hid h2
  have B2 := hid (B1.out.trans b2)
  have hs2 := hid (B2.out.size)
  clear h2 b2 H1 B1 hs1
  go_wp2_with fail
  refine (ddel0 _ H2.out hs2.out (by omega) ⟨#[97]⟩ (by decide)).mono ?_
  rintro e3 w3 ⟨rfl, h3, b3⟩
  have H3 := hid h3
  have B3 := hid (B2.out.trans b3)
  have hs3 := hid (B3.out.size)
  clear h3 b3 H2 B2 hs2
  go_wp2_with fail
  refine (dset0 _ H3.out hs3.out (by omega) ⟨#[97]⟩ (by decide) (2, 7, ⟨#[]⟩)).mono ?_
  rintro e4 w4 ⟨rfl, h4, b4⟩
  have H4 := hid h4
  rw [show setL (dropL (setL (setL [] ⟨#[97]⟩ (2, 1, ⟨#[]⟩)) ⟨#[98]⟩ (0, 0, ⟨#[]⟩)) ⟨#[97]⟩) ⟨#[97]⟩ (2, 7, ⟨#[]⟩) = [(⟨#[98]⟩, (0, 0, ⟨#[]⟩)), (⟨#[97]⟩, (2, 7, ⟨#[]⟩))] from by decide] at H4
  rw [show hasL (dropL (setL (setL [] ⟨#[97]⟩ (2, 1, ⟨#[]⟩)) ⟨#[98]⟩ (0, 0, ⟨#[]⟩)) ⟨#[97]⟩) ⟨#[97]⟩ = false from by decide]
  have B4 := hid (B3.out.trans b4)
  clear h4 b4 H3 B3 hs3
  have hs4 := hid (B4.out.size)
  go_wp2_with fail
  refine (get_calls _ H4.out ⟨#[97]⟩ (by decide)).mono ?_
  rintro e5 w5 ⟨rfl, b5⟩
  rw [show gotV [((⟨#[98]⟩ : ByteArray), ((0, 0, ⟨#[]⟩) : Vl)), (⟨#[97]⟩, (2, 7, ⟨#[]⟩))] ⟨#[97]⟩ = (2, 7, ⟨#[]⟩) from by decide, show hasL [((⟨#[98]⟩ : ByteArray), ((0, 0, ⟨#[]⟩) : Vl)), (⟨#[97]⟩, (2, 7, ⟨#[]⟩))] ⟨#[97]⟩ = true from by decide]
  unfold vlV
  have H5 := hid ((H4.out.on b5).on ((Below.refl _ _).alloc (Nat.le_refl _) (Obj.cells #[.int .i64 2, .int .i64 7, .string ⟨#[]⟩] 32)))
  have B5 := hid ((below_in B4.out (Nat.le_refl _) b5).alloc (Nat.le_trans hs4.out b5.size) (Obj.cells #[.int .i64 2, .int .i64 7, .string ⟨#[]⟩] 32))
  clear b5 H4 B4
  go_wp2_with fail
  refine (key_some (i := 1) _ H5.out (by omega) rfl).mono ?_
  rintro e6 w6 ⟨rfl, b6⟩
  have H6 := hid (H5.out.on b6)
  have B6 := hid (below_in B5.out (Nat.le_refl _) b6)
  have c7 : w6.cell? ⟨w5.heap.size, 1, none⟩ = some (.int .i64 7) := (b6.cell (p := ⟨w5.heap.size, 1, none⟩) (by simp)).trans (by simp)
  clear b6 H5 B5
  go_wp2_with fail
  refine (len_calls _ H6.out).mono ?_
  rintro e8 w8 ⟨rfl, rfl⟩
  go_wp2_with fail
  go_ret
  exact ⟨rfl, B6.out⟩

end Go.Proofs.Ytphniknckmfilaa
