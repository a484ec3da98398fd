/- Maps of the type that dicts have. -/
import Derived.Test.YtemidicgipebjaaGreatDcPlain
import Derived.Test.YtemidicgipebjaaGreatMapG
namespace Go.Proofs.YtemidicgipebjaaGreat
open Go.RowKit

theorem underM : Tryz.prog.underlying 154 = some (.map 9 3) := by kernel_rfl
theorem wp_mlook {ops : Array Oper} {rest : List Oper} {o : Oper} {a : Act} {Q : Exit → Act → World → Prop} {w : World} (hg : o.guard = none) (mo x : Operand) (hop : o.op = Op.lookup 154 mo x true)
    (m c : Nat) (f : ByteArray → Option Int) (s : ByteArray) (hm : a.eval mo = .map (some m)) (hM : MapN m f c w) (hx : a.eval x = .string s) (hs : s.size ≤ maxLen)
    (hK : wpList Tryz.prog ops Q rest (a.put o.dst (.tuple #[.int .i64 ((f s).getD 0), .bool (f s).isSome])) w) : wpList Tryz.prog ops Q (o :: rest) a w := gm_look underM hg mo x hop m c f s hm hM hx hs hK
theorem wp_mlen {ops : Array Oper} {rest : List Oper} {o : Oper} {a : Act} {Q : Exit → Act → World → Prop} {w : World} (hg : o.guard = none) (mo : Operand) (hop : o.op = Op.call { callee := Callee.builtin Builtin.len, args := #[mo], argTypes := #[154] })
    (m c : Nat) (f : ByteArray → Option Int) (hm : a.eval mo = .map (some m)) (hM : MapN m f c w)
    (hK : wpList Tryz.prog ops Q rest (a.put o.dst (.int .i64 c)) w) : wpList Tryz.prog ops Q (o :: rest) a w := gm_len underM hg mo hop m c f hm hM hK
theorem run_mlen {m c : Nat} {f : ByteArray → Option Int} {w : World} (hM : MapN m f c w) (ty : TypeId) : (Builtin.len_ #[154] ty #[.map (some m)]).run Tryz.prog w = .ok (.int .i64 c) w := gm_run underM hM ty
theorem wpo_mput {o : Oper} {a : Act} {K : Act → World → Prop} {Q : Exit → Act → World → Prop} {w : World} (mo x v : Operand) (hop : o.op = Op.mapUpdate 154 mo x v)
    (m c : Nat) (f : ByteArray → Option Int) (s : ByteArray) (i : Int) (hm : a.eval mo = .map (some m)) (hM : MapN m f c w) (hc : c < maxLen) (hx : a.eval x = .string s) (hs : s.size ≤ maxLen) (hv : a.eval v = .int .i64 i) (hi : (Lit.int .i64 i).wf = true)
    (hK : ∀ w', MapN m (putF f s i) (if (f s).isSome then c else c + 1) w' → w.grownBy w' (some m) → K (a.put o.dst undef) w') : o.wp Tryz.prog a w K Q := gm_oput underM mo x v hop m c f s i hm hM hc hx hs hv hi hK
theorem wp_mput {ops : Array Oper} {rest : List Oper} {o : Oper} {a : Act} {Q : Exit → Act → World → Prop} {w : World} (hg : o.guard = none) (mo x v : Operand) (hop : o.op = Op.mapUpdate 154 mo x v)
    (m c : Nat) (f : ByteArray → Option Int) (s : ByteArray) (i : Int) (hm : a.eval mo = .map (some m)) (hM : MapN m f c w) (hc : c < maxLen) (hx : a.eval x = .string s) (hs : s.size ≤ maxLen) (hv : a.eval v = .int .i64 i) (hi : (Lit.int .i64 i).wf = true)
    (hK : ∀ w', MapN m (putF f s i) (if (f s).isSome then c else c + 1) w' → w.grownBy w' (some m) → wpList Tryz.prog ops Q rest (a.put o.dst undef) w') : wpList Tryz.prog ops Q (o :: rest) a w := gm_put underM hg mo x v hop m c f s i hm hM hc hx hs hv hi hK
theorem step_mput {ops : Array Oper} {o : Oper} {a : Act} {K : Act → World → Prop} {Q : Exit → Act → World → Prop} {E : Prop} {w : World} (hg : o.guard = none) (mo x v : Operand) (hop : o.op = Op.mapUpdate 154 mo x v)
    (m c : Nat) (f : ByteArray → Option Int) (s : ByteArray) (i : Int) (hm : a.eval mo = .map (some m)) (hM : MapN m f c w) (hc : c < maxLen) (hx : a.eval x = .string s) (hs : s.size ≤ maxLen) (hv : a.eval v = .int .i64 i) (hi : (Lit.int .i64 i).wf = true)
    (hK : ∀ w', MapN m (putF f s i) (if (f s).isSome then c else c + 1) w' → w.grownBy w' (some m) → K (a.put o.dst undef) w') : if Region.wanted o (yielded ops a.tmps) = true then Oper.wp Tryz.prog o a w K Q else E := gm_step underM hg mo x v hop m c f s i hm hM hc hx hs hv hi hK
theorem wp_mdel {ops : Array Oper} {rest : List Oper} {o : Oper} {a : Act} {Q : Exit → Act → World → Prop} {w : World} (hg : o.guard = none) (mo x : Operand)
    (hop : o.op = Op.call { callee := Callee.builtin Builtin.delete, args := #[mo, x], argTypes := #[154, 9] })
    (m c : Nat) (f : ByteArray → Option Int) (s : ByteArray) (hm : a.eval mo = .map (some m)) (hM : MapN m f c w) (hx : a.eval x = .string s) (hs : s.size ≤ maxLen)
    (hK : ∀ w', MapN m (delF f s) (if (f s).isSome then c - 1 else c) w' → w.grownBy w' (some m) → wpList Tryz.prog ops Q rest (a.put o.dst (.tuple #[])) w') : wpList Tryz.prog ops Q (o :: rest) a w := gm_del underM hg mo x hop m c f s hm hM hx hs hK

end Go.Proofs.YtemidicgipebjaaGreat
