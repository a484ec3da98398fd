/- A list with any closure. -/
import Derived.Test.YtijbiedblahmhaaDoorPsStmts
namespace Go.Proofs.YtijbiedblahmhaaDoor
open Go.RowKit

/-- what comes of a part: a state and the tokens left, or those at which it is given up -/
inductive PG (σ : Type) where
  | ok : σ → List Tok → PG σ
  | bad : List Tok → PG σ
def PG.bind {σ τ : Type} : PG σ → (σ → List Tok → PG τ) → PG τ
  | .ok s l, k => k s l
  | .bad l, _ => .bad l
theorem PG.bind_ok {σ τ : Type} (s : σ) (l : List Tok) (k : σ → List Tok → PG τ) : (PG.ok s l).bind k = k s l := rfl
theorem PG.bind_bad {σ τ : Type} (l : List Tok) (k : σ → List Tok → PG τ) : (PG.bad l : PG σ).bind k = .bad l := rfl
/-- the sign that ends a list -/
def gEnd {σ : Type} (en : UInt8) (s : σ) (l : List Tok) : PG σ := if isH l [en] then .ok s l.tail else .bad l
/-- parts behind commas, and the sign behind them -/
def gMore {σ : Type} (step : Nat → σ → List Tok → PG σ) (cnt : σ → Nat) (most : Nat) (en : UInt8) : Nat → σ → List Tok → PG σ
  | 0, _, l => .bad l
  | 1, s, l => if cnt s < most ∧ isH l [44] = true then .bad l.tail else gEnd en s l
  | f + 2, s, l => if cnt s < most ∧ isH l [44] = true then (step f s l.tail).bind fun s l => gMore step cnt most en f s l else gEnd en s l
def gList {σ : Type} (step : Nat → σ → List Tok → PG σ) (cnt : σ → Nat) (most : Nat) (en : UInt8) (f : Nat) (s : σ) (l : List Tok) : PG σ :=
  if isH l [en] then .ok s l.tail else (step f s l).bind fun s l => gMore step cnt most en f s l
def ReadsG {σ : Type} (I : σ → World → Prop) (lo P : Nat) (L : List Tok) (w : World) (out : PG σ) (e : Ending) (w' : World) : Prop :=
  match out with
  | .ok s l => e = .returned (.tuple #[]) ∧ I s w' ∧ PSt P L w' l ∧ ButLo lo P w w'
  | .bad l => e = gaveUp ∧ PSt P L w' l ∧ ButLo lo P w w'
/-- what is known of a closure -/
def PartC {σ : Type} (N : Nat) (c1 c2 : Value) (I : σ → World → Prop) (cnt : σ → Nat) (most : Nat) (step : Nat → σ → List Tok → PG σ) (lo P : Nat) (L : List Tok) (g : Nat) : Prop :=
  ∀ (s : σ) (l : List Tok) (w : World), 20 * l.length + 10 ≤ g → cnt s < most → lo ≤ w.heap.size → Hid (PSt P L w l) → Hid (I s w) → Calls Tryd.prog N #[c1, c2] w (ReadsG I lo P L w (step g s l))
theorem gMore_more {σ : Type} {step : Nat → σ → List Tok → PG σ} {cnt : σ → Nat} {most : Nat} {en : UInt8} {g : Nat} {s : σ} {t : Tok} {z : List Tok} (h : cnt s < most ∧ isH (t :: z) [44] = true) : gMore step cnt most en (g + 2) s (t :: z) = (step g s z).bind fun s l => gMore step cnt most en g s l := by rw [gMore, if_pos h]; rfl
theorem gMore_stop {σ : Type} {step : Nat → σ → List Tok → PG σ} {cnt : σ → Nat} {most : Nat} {en : UInt8} {g : Nat} {s : σ} {m : List Tok} (h : ¬ (cnt s < most ∧ isH m [44] = true)) : gMore step cnt most en (g + 2) s m = gEnd en s m := by rw [gMore, if_neg h]
theorem gEnd_yes {σ : Type} {en : UInt8} {s : σ} {u : Tok} {z : List Tok} (h : isH (u :: z) [en] = true) : gEnd en s (u :: z) = .ok s z := by unfold gEnd; rw [if_pos h]; rfl
theorem gEnd_no {σ : Type} {en : UInt8} {s : σ} {m : List Tok} (h : ¬ isH m [en] = true) : gEnd en s m = .bad m := by unfold gEnd; rw [if_neg h]

end Go.Proofs.YtijbiedblahmhaaDoor
