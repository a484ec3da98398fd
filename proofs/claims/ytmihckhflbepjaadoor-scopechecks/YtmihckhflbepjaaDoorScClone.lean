/- Names that are cloned. -/
import Derived.Test.YtmihckhflbepjaaDoorScFind
import Derived.Lib.SliceRun
namespace Go.Proofs.YtmihckhflbepjaaDoor
set_option linter.unusedSimpArgs false
open Go.RowKit

theorem infoStr : ∃ i0, Tryd.prog.info? 9 = some i0 ∧ i0.zero = some (.string ⟨#[]⟩) ∧ i0.size = 1 ∧ i0.bytes = 16 :=
  info_parts (show (Tryd.prog.info? 9).map (fun i => (i.zero, i.size, i.bytes)) = some (some (.string ⟨#[]⟩), 1, 16) by kernel_rfl)
theorem underStr : Tryd.prog.underlying 22 = some (.slice 9) := by kernel_rfl
theorem strs_own {w : World} {v : Value} {ns : List ByteArray} {lo : Nat} (h : w.ownsRow lo 9 1 v ns.length (ns.map Value.string)) : StrsS (fun b => lo ≤ b ∧ b < w.heap.size) v ns w := by
  rcases h.2 with ⟨h1, h2⟩ | ⟨g, cap, cur, h1, h2, h3, h4, h5, h6, h7⟩
  · have : ns = [] := List.length_eq_zero_iff.1 h2
    subst this
    exact .inl ⟨none, 0, h1, rfl⟩
  · refine .inr ⟨g, 0, cap, h1, ⟨h2, blk_lt (show Blk g 9 cur w from h3)⟩, fun i hi => ?_, h4⟩
    rw [Nat.zero_add, blk_cell (show Blk g 9 cur w from h3)]
    have e := congrArg (fun l => l[i]?) h7
    simp only [List.getElem?_take, Array.getElem?_toList, List.getElem?_map] at e
    rw [if_pos (by omega)] at e
    rw [e]
    simp [hi]
set_option maxRecDepth 100000 in
theorem clone_nil (c : Nat) (w : World) : Calls Tryd.prog 59 #[.slice none 0 c] w fun e w' => ∃ ao cap, e = .returned (.slice ao 0 cap) ∧ Below w.heap.size w w' := by
  have hnl := fun (w : World) (a : Option Addr) (n c : Nat) => Lib.run_eql_slice_nil (P := Tryd.prog) w 22 9 a n c 0 0 underStr
  go_enter Tryd.func59, Tryd.ntmps59
  go_wp2_with fail
  go_ret
  exact ⟨none, 0, rfl, Below.refl _ _⟩
set_option maxRecDepth 100000 in
theorem clone_some {ad : Addr} {c : Nat} (ns : List ByteArray) (w : World) (hs : ∀ (j : Nat) (u : Value), (ns.map Value.string)[j]? = some u → w.cell? (ad.add j) = some u ∧ (ad.add j).block < w.heap.size) (hl : ns.length ≤ 1000000) :
    Calls Tryd.prog 59 #[.slice (some ad) ns.length c] w fun e w' => ∃ v, e = .returned v ∧ StrsS (fun b => w.heap.size ≤ b ∧ b < w'.heap.size) v ns w' ∧ Below w.heap.size w w' := by
  obtain ⟨i0, hi, hz0, hz1, hz2⟩ := infoStr
  have A := (Below.refl w.heap.size w).alloc (Nat.le_refl _) (Obj.cells #[] 9)
  have HA := hid A
  have RO := hid (show World.ownsRow (w.alloc (Obj.cells #[] 9)) w.heap.size 9 1 (.slice (some ⟨w.heap.size, 0, none⟩) 0 0) 0 [] from ⟨rfl, .inr ⟨w.heap.size, 0, #[], rfl, Nat.le_refl _, blk_new w _ _, Nat.le_refl _, Nat.zero_le _, rfl, rfl⟩⟩)
  have NW := hid (show ∀ (j : Nat) (u : Value), (ns.map Value.string)[j]? = some u → (w.alloc (Obj.cells #[] 9)).cell? (ad.add j) = some u from fun j u hj => (A.cell (hs j u hj).2).trans (hs j u hj).1)
  have ONE := hid (show ∀ u ∈ ns.map Value.string, u.oneCell' = true from fun u hu => by
    obtain ⟨x, _, rfl⟩ := List.mem_map.1 hu; rfl)
  clear A hs
  have hnl := fun (w : World) (a : Option Addr) (n c : Nat) => Lib.run_eql_slice_nil (P := Tryd.prog) w 22 9 a n c 0 0 underStr
  go_enter Tryd.func59, Tryd.ntmps59
  go_wp2_with (first | (at_builtin; refine wpList_append_own_at _ rfl _ _ 22 rfl w.heap.size 9 i0 (.string ⟨#[]⟩) 1 16 underStr hi hz0 hz1 hz2 rfl (by decide) _ _ _ (by rfl) RO.out ad ns.length c (ns.map Value.string) (by rfl) (by simp) NW.out ONE.out (by unfold maxLen; omega) (by omega) (by simp) ?_; intro v' w1 hown' hgrow hnil hloc; have HO := hid hown'; have HG := hid hgrow; clear hown' hgrow hnil hloc) | fail)
  go_ret
  refine ⟨_, rfl, ?_, ?_⟩
  · have := HO.out
    rw [Nat.zero_add, List.nil_append] at this
    exact strs_own this
  · exact HA.out.grown HG.out (by simp) (fun k hk => by simp [Value.ownBlock] at hk; omega)
theorem clone_calls {B : Nat} {v : Value} {ns : List ByteArray} (w : World) (h : StrsIn B v ns w) (hB : B ≤ w.heap.size) (hl : ns.length ≤ 1000000) :
    Calls Tryd.prog 59 #[v] w fun e w' => ∃ v', e = .returned v' ∧ StrsS (fun b => w.heap.size ≤ b ∧ b < w'.heap.size) v' ns w' ∧ Below w.heap.size w w' := by
  rcases h with ⟨ao, cap, rfl, rfl⟩ | ⟨b, off, cap, rfl, hb, hs, hc⟩
  · cases ao with
    | none => exact (clone_nil cap w).mono fun e w' q => by obtain ⟨ao, c, q1, q2⟩ := q; exact ⟨_, q1, .inl ⟨ao, c, rfl, rfl⟩, q2⟩
    | some a => exact clone_some [] w (fun j u hj => by simp at hj) (by simp)
  · refine clone_some ns w (fun j u hj => ?_) hl
    have e : (⟨b, off, none⟩ : Addr).add j = ⟨b, off + j, none⟩ := by unfold Addr.add; split <;> simp_all
    have hjl : j < ns.length := by simpa using (List.getElem?_eq_some_iff.1 hj).1
    rw [e, hs j hjl]
    rw [List.getElem?_map, List.getElem?_eq_getElem hjl] at hj
    exact ⟨by simpa using hj, Nat.lt_of_lt_of_le hb hB⟩

end Go.Proofs.YtmihckhflbepjaaDoor
