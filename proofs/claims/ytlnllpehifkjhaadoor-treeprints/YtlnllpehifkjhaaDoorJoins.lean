/- strings.Join, by the library's contract. -/
import Derived.Shelf.Strings.OnBuilder
import Derived.Lib.Join
import Derived.Test.YtlnllpehifkjhaaDoorJoint3
import Derived.Test.YtlnllpehifkjhaaDoorJoint5
namespace Go.Proofs.YtlnllpehifkjhaaDoor
open Go.Shelf Go.RowKit

def joinRen : Go.Shelf.Ren := ⟨fun | 156 => 81 | 165 => 92 | 166 => 49 | 169 => 25 | 240 => 47 | 241 => 97 | 276 => 63 | 277 => 101 | n => n, fun | 31 => 22 | 9 => 9 | 3 => 3 | 4 => 4 | 0 => 0 | 20 => 20 | 72 => 41 | 76 => 67 | 70 => 38 | 37 => 39 | 75 => 55 | 127 => 59 | 164 => 73 | 5 => 5 | 80 => 45 | n => n, fun | n => n⟩
theorem joinLays : Go.Proofs.Lays.n156 Tryd.prog joinRen := {
  mixed := by kernel_rfl
  f156 := Tryd.func81.trans (congrArg some (by kernel_rfl))
  f165 := Tryd.func92.trans (congrArg some (by kernel_rfl))
  f166 := Tryd.func49.trans (congrArg some (by kernel_rfl))
  f169 := Tryd.func25.trans (congrArg some (by kernel_rfl))
  f240 := Tryd.func47.trans (congrArg some (by kernel_rfl))
  f241 := Tryd.func97.trans (congrArg some (by kernel_rfl))
  f276 := Tryd.func63.trans (congrArg some (by kernel_rfl))
  f277 := Tryd.func101.trans (congrArg some (by kernel_rfl))
  t0 := Tryd.underlying0
  a0 := Tryd.isAgg0
  z0 := Tryd.sizeOf0
  v0 := Tryd.zeroValue0
  t3 := Tryd.underlying3
  a3 := Tryd.isAgg3
  z3 := Tryd.sizeOf3
  v3 := Tryd.zeroValue3
  t4 := Tryd.underlying4
  a4 := Tryd.isAgg4
  z4 := Tryd.sizeOf4
  v4 := Tryd.zeroValue4
  t9 := Tryd.underlying9
  a9 := Tryd.isAgg9
  z9 := Tryd.sizeOf9
  v9 := Tryd.zeroValue9
  t20 := Tryd.underlying20
  a20 := Tryd.isAgg20
  z20 := Tryd.sizeOf20
  v20 := Tryd.zeroValue20
  t31 := Tryd.underlying22
  a31 := Tryd.isAgg22
  z31 := Tryd.sizeOf22
  v31 := Tryd.zeroValue22
  t37 := Tryd.underlying39
  a37 := Tryd.isAgg39
  z37 := Tryd.sizeOf39
  v37 := Tryd.zeroValue39
  t70 := Tryd.underlying38
  a70 := Tryd.isAgg38
  z70 := Tryd.sizeOf38
  v70 := Tryd.zeroValue38
  t72 := Tryd.underlying41
  a72 := Tryd.isAgg41
  z72 := Tryd.sizeOf41
  v72 := Tryd.zeroValue41
  t75 := Tryd.underlying55
  a75 := Tryd.isAgg55
  z75 := Tryd.sizeOf55
  v75 := Tryd.zeroValue55
  t76 := Tryd.underlying67
  a76 := Tryd.isAgg67
  z76 := Tryd.sizeOf67
  v76 := Tryd.zeroValue67
  t127 := Tryd.underlying59
  a127 := Tryd.isAgg59
  z127 := Tryd.sizeOf59
  v127 := Tryd.zeroValue59
  t164 := Tryd.underlying73
  a164 := Tryd.isAgg73
  z164 := Tryd.sizeOf73
  v164 := Tryd.zeroValue73 }
theorem joinExtra : Builder.Extra Tryd.prog joinRen := {
  sizeBuilder := by kernel_rfl
  liesBuilder := by kernel_rfl
  t5 := Tryd.underlying5
  a5 := Tryd.isAgg5
  z5 := Tryd.sizeOf5
  v5 := Tryd.zeroValue5
  infoByte := by kernel_rfl
  cellsByte := by kernel_rfl
  sizeByte := by kernel_rfl
  neB5 := by decide }

theorem joinT_eq (ns : List ByteArray) : Lib.join (ns.map (·.data.toList)) [44, 32] = joinT ns := by
  cases ns with
  | nil => rfl
  | cons s r =>
    rw [List.map_cons, Lib.join_cons]
    show s.data.toList ++ _ = s.data.toList ++ r.flatMap fun x => 44 :: 32 :: x.data.toList
    unfold Lib.joinTail
    rw [List.flatMap_def, List.map_map]
    rfl

theorem join_calls (B : Nat) (w : World) (v : Value) (ns : List ByteArray) (hB : B ≤ w.heap.size) (hS : Hid (StrsIn B v ns w)) (hl : (joinT ns).length ≤ 1000000000) (hn : ns.length ≤ 1000000000) :
    Calls Tryd.prog 81 #[v, .string ⟨#[44, 32]⟩] w fun e w' => e = .returned (.string ⟨(joinT ns).toArray⟩) ∧ Below w.heap.size w w' := by
  rcases hS.out with ⟨ao, cap, rfl, rfl⟩ | ⟨b, off, cap, rfl, hb, hat, hc⟩
  · exact (Any.strings_Join_none joinLays joinExtra ao cap ⟨#[44, 32]⟩ w).mono fun e w' ⟨h1, h2⟩ => ⟨h1, h2 ▸ Below.refl _ _⟩
  · have := Any.strings_Join joinLays joinExtra b off cap ns ⟨#[44, 32]⟩ w (fun j x hx => by
      obtain ⟨hj, rfl⟩ := List.getElem?_eq_some_iff.1 hx
      exact hat j hj) (by omega) (by omega) hc (by show (Lib.join _ [44, 32]).length ≤ _; rw [joinT_eq]; omega)
    refine this.mono fun e w' ⟨h1, h2⟩ => ⟨?_, h2⟩
    rw [h1]
    show Ending.returned (.string ⟨(Lib.join _ [44, 32]).toArray⟩) = _
    rw [joinT_eq]

end Go.Proofs.YtlnllpehifkjhaaDoor
