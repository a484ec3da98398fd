/- Nodes as plain data, and what the document says of them as plain functions. What num.Digits answers, for any number. What the document's Digits answers, for any number. -/
import Derived.WalkKit
import Derived.Test.YtdnnmjhfidimcaaGreatDoorJoint1
import Derived.Test.YtdnnmjhfidimcaaGreatDoorProg
import Derived.Lib.Strings
namespace Go.Proofs.YtdnnmjhfidimcaaGreatDoor
set_option maxRecDepth 100000
set_option maxHeartbeats 800000
open Go.RowKit
inductive Nd where
 | mk (kind op num:Int) (str:ByteArray) (names:List ByteArray) (kids:List Nd) (pl:Int):Nd
def Nd.kind:Nd→Int | .mk k _ _ _ _ _ _=>k
def Nd.op:Nd→Int | .mk _ o _ _ _ _ _=>o
def Nd.num:Nd→Int | .mk _ _ n _ _ _ _=>n
def Nd.str:Nd→ByteArray | .mk _ _ _ s _ _ _=>s
def Nd.names:Nd→List ByteArray | .mk _ _ _ _ ns _ _=>ns
def Nd.kids:Nd→List Nd | .mk _ _ _ _ _ ks _=>ks
def Nd.pl:Nd→Int | .mk _ _ _ _ _ _ p=>p
mutual
theorem Nd.ind {P:Nd→Prop} (h:∀ k o n s ns ks p,(∀ x∈ks,P x)→P (.mk k o n s ns ks p)):∀ t,P t
 | .mk k o n s ns ks p=>h k o n s ns ks p (Nd.indL h ks)
theorem Nd.indL {P:Nd→Prop} (h:∀ k o n s ns ks p,(∀ x∈ks,P x)→P (.mk k o n s ns ks p)):∀ (ks:List Nd) (x:Nd),x∈ks→P x
 | [],x,hx=>by cases hx
 | k::ks,x,hx=>by
  rcases List.mem_cons.1 hx with e | hx
  ·rw [e];exact Nd.ind h k
  ·exact Nd.indL h ks x hx
end
/-! how high, and how many -/
mutual
def eZ:Nd→Nat
 | .mk _ _ _ _ _ ks _=>gX ks+1
def gX:List Nd→Nat
 | []=>0
 | k::ks=>max (eZ k) (gX ks)
end
mutual
def bM:Nd→Nat
 | .mk _ _ _ _ _ ks _=>bW ks+1
def bW:List Nd→Nat
 | []=>0
 | k::ks=>bM k+bW ks
end
theorem Gs (l:List Nd) (x:Nd):gX (l++[x])=max (gX l) (eZ x):=by
 induction l with
 | nil=>simp [gX]
 | cons k ks ih=>simp only [List.cons_append,gX,ih];omega
theorem qC (l:List Nd) (x:Nd):bW (l++[x])=bW l+bM x:=by
 induction l with
 | nil=>simp [bW]
 | cons k ks ih=>simp only [List.cons_append,bW,ih];omega
theorem Gt (t:Nd):1≤bM t:=by cases t;simp [bM]
theorem KW (t:Nd):1≤eZ t:=by cases t;simp [eZ]
theorem jM {x:Nd} : ∀ {l:List Nd},x∈l→bM x≤bW l
 | k::ks,h=>by
  rcases List.mem_cons.1 h with e | h
  ·rw [e];simp [bW]
  ·have:=jM h;simp [bW];omega
theorem dZ:∀ l:List Nd,l.length≤bW l
 | []=>Nat.le_refl _
 | k::ks=>by have:=dZ ks;have:=Gt k;simp [bW];omega
theorem Cg (t:Nd):eZ t≤bM t:=by
 refine Nd.ind (P:=fun t=>eZ t≤bM t) ?_ t;intro k o n s ns ks p ih;simp only [eZ,bM];have:gX ks≤bW ks:=by
  clear k o n s ns p;induction ks with
  | nil=>simp [gX]
  | cons x xs ih2=>
   have h1:=ih x (by simp);have h2:=ih2 (fun y hy=>ih y (by simp [hy]));simp [gX,bW];omega
 omega
theorem zD:∀ l:List Nd,gX l≤bW l
 | []=>Nat.le_refl _
 | k::ks=>by have:=zD ks;have:=Cg k;simp [gX,bW];omega
theorem Dx (l m:List Nd):gX (l++m)=max (gX l) (gX m):=by
 induction l with
 | nil=>simp [gX]
 | cons k ks ih=>simp only [List.cons_append,gX,ih];omega
theorem AI (l:List Nd) (i:Nat):gX (l.take i)≤gX l:=by
 have:gX (l.take i++l.drop i)=max (gX (l.take i)) (gX (l.drop i)):=Dx _ _;rw [List.take_append_drop] at this;omega
/-! whether two are alike -/
def namesB (ns ns':List ByteArray):Bool:=ns.map (·.data.toList)==ns'.map (·.data.toList)
def iK (k o n:Int) (s:ByteArray) (ns:List ByteArray) (c:Nat) (k' o' n':Int) (s':ByteArray) (ns':List ByteArray) (c':Nat):Bool:=
 (k==k')&&((o==o')&&((n==n')&&((s.data.toList==s'.data.toList)&&(namesB ns ns'&&(c==c')))))
mutual
def sameN:Nd→Nd→Bool
 | .mk k o n s ns ks _,.mk k' o' n' s' ns' ks' _=>(k==k')&&((o==o')&&((n==n')&&((s.data.toList==s'.data.toList)&&(namesB ns ns'&&mE ks ks'))))
def mE:List Nd→List Nd→Bool
 | [],[]=>true
 | a::as',b::bs=>sameN a b&&mE as' bs
 | _,_=>false
end
theorem wL:∀ (l m:List Nd),mE l m=true→l.length=m.length
 | [],[],_=>rfl
 | a::l,b::m,h=>by
  rw [mE,Bool.and_eq_true] at h;have:=wL l m h.2;simp [this]
 | [],b::m,h=>by simp [mE] at h
 | a::l,[],h=>by simp [mE] at h
theorem CD:∀ (l m:List Nd),l.length=m.length→(∀ (i:Nat) (h:i<l.length) (h':i<m.length),sameN l[i] m[i]=true)→mE l m=true
 | [],[],_,_=>by rw [mE]
 | a::l,b::m,hl,h=>by
  rw [mE,Bool.and_eq_true];exact⟨h 0 (by simp) (by simp),CD l m (by simpa using hl) (fun i h1 h2=>h (i+1) (by simpa using h1) (by simpa using h2))⟩
theorem CE:∀ (l m:List Nd) (i:Nat) (h:i<l.length) (h':i<m.length),sameN l[i] m[i]=false→mE l m=false
 | a::l,b::m,0,_,_,h=>by rw [mE,Bool.and_eq_false_iff];exact .inl h
 | a::l,b::m,i+1,h1,h2,h=>by
  rw [mE,Bool.and_eq_false_iff];exact .inr (CE l m i (by simpa using h1) (by simpa using h2) h)
theorem MZ (k o n:Int) (s:ByteArray) (ns:List ByteArray) (ks:List Nd) (p k' o' n':Int) (s':ByteArray) (ns':List ByteArray) (ks':List Nd) (p':Int) :
  sameN (.mk k o n s ns ks p) (.mk k' o' n' s' ns' ks' p')=(iK k o n s ns ks.length k' o' n' s' ns' ks'.length&&mE ks ks'):=by
 rw [sameN];unfold iK;cases hq:mE ks ks' with
 | false=>simp
 | true=>simp [wL _ _ hq]
theorem zE {l m:List ByteArray} (h:l.length≠m.length):namesB l m=false:=by
 unfold namesB;rw [beq_eq_false_iff_ne];intro e;exact h (by simpa using congrArg List.length e)
theorem CF {l m:List ByteArray} (hl:l.length=m.length) (h:∀ (i:Nat) (h:i<l.length) (h':i<m.length),l[i].data.toList=m[i].data.toList):namesB l m=true:=by
 unfold namesB;rw [beq_iff_eq];refine List.ext_getElem (by simpa using hl) ?_;intro i h1 h2;simpa using h i (by simpa using h1) (by simpa using h2)
theorem CG {l m:List ByteArray} {i:Nat} (h:i<l.length) (h':i<m.length) (hn:l[i].data.toList≠m[i].data.toList):namesB l m=false:=by
 unfold namesB;rw [beq_eq_false_iff_ne];intro e;have:(l.map (·.data.toList))[i]? = (m.map (·.data.toList))[i]?:=by rw [e]
 rw [List.getElem?_eq_getElem (by simpa using h),List.getElem?_eq_getElem (by simpa using h')] at this;exact hn (by simpa using this)
theorem Qe {n:Int} (h:n<0) (h1:-9223372036854775808≤n):IntKind.u64.wrap (-IntKind.u64.wrap n)=(n.natAbs:Int):=by
 simp [IntKind.wrap,IntKind.signed,IntKind.bits];omega
theorem Iw (n:Int) (h1:-9223372036854775808≤n) (h2:n≤9223372036854775807) (w:World) :
  Calls Tryz.prog 155 #[.int .i64 n] w fun e w'=>e=.returned (.int .u64 (n.natAbs:Int))∧w=w':=by
 by_cases h:n<0
 ·go_enter Tryz.func155,Tryz.ntmps155;go_wp2;go_ret;exact⟨by rw [Qe h h1];rfl,rfl⟩
 ·go_enter Tryz.func155,Tryz.ntmps155;go_wp2;go_ret;exact⟨by rw [show (n.natAbs:Int)=n from by omega];rfl,rfl⟩
structure Ix (w:World) (acc:List UInt8) (wr:World):Prop where
 cell:∀ i,i<20→∃ v,wr.cell? ⟨w.heap.size,i,none⟩=some (.int .u8 v)
 told:∀ j (hj:j<acc.length),wr.cell? ⟨w.heap.size,20 - acc.length+j,none⟩=some (.int .u8 (acc[j].toNat:Int))
 free:∀ i,i<20→wr.frozen? ⟨w.heap.size,i,none⟩=false
 low:w.heap.size<wr.heap.size
 gr:Below w.heap.size w wr
theorem Iy (w:World) (c:Array Value) (hc:c=(List.replicate 20 (Value.int .u8 0)).toArray):Ix w [] (w.alloc (Obj.cells c 133)) where
 cell:=fun i hi=>⟨0,by subst hc;rw [World.cell?_alloc_new,List.getElem?_toArray,List.getElem?_replicate,if_pos hi]⟩
 told:=fun j hj=>absurd hj (by simp)
 free:=fun i _=>by simp
 low:=by simp
 gr:=(Below.refl _ _).alloc (Nat.le_refl _) _
theorem CX {w wr:World} {acc:List UInt8} (h:Ix w acc wr) (hl:acc.length<20) (b:UInt8) (at':Nat) (hat:at'=19 - acc.length) (v:Int) (hv:v=(b.toNat:Int)) :
  Ix w (b::acc) (wr.setCell ⟨w.heap.size,at',none⟩ (.int .u8 v)) where
 cell:=fun i hi=>by
  by_cases h':i=at'
  ·subst h';obtain⟨u,hu⟩:=h.cell i hi;exact⟨v,World.cell?_setCell_same' _ _ _ (by rw [hu];rfl)⟩
  ·have hne:(⟨w.heap.size,at',none⟩:Addr)≠⟨w.heap.size,i,none⟩:=fun e=>h' (by injection e with _ e2;exact e2.symm)
   rw [World.cell?_setCell_other (h:=hne)];exact h.cell i hi
 told:=fun j hj=>by
  simp only [List.length_cons] at hj ⊢;match j,hj with
  | 0,_=>
   have e:20 - (acc.length+1)+0=at':=by omega
   rw [e];obtain⟨u,hu⟩:=h.cell at' (by omega);rw [World.cell?_setCell_same' _ _ _ (by rw [hu];rfl),hv];rfl
  | j+1,hj=>
   have e:20 - (acc.length+1)+(j+1)=20 - acc.length+j:=by omega
   have hne:(⟨w.heap.size,at',none⟩:Addr)≠⟨w.heap.size,20 - acc.length+j,none⟩:=fun e=>by injection e with _ e2;omega
   rw [e,World.cell?_setCell_other (h:=hne)];simpa using h.told j (by omega)
 free:=fun i hi=>by simp [h.free i hi]
 low:=by simpa [World.setCell] using h.low
 gr:=h.gr.setCell (Nat.le_refl _) _
theorem Bs (B p:Nat) (i:Int) (hi:i=(p:Int)) (hp:p<20) (n:Nat) (hn:n=20 - p) (w:World) :
  (Instr.sliceAt 133 (.pointer (some ⟨B,0,none⟩)) (some (.int .i64 i)) (some (.int .i64 20)) (some (.int .i64 20))).run Tryz.prog w=.ok (.slice (some ⟨B,p,none⟩) n n) w:=by
 have hl:Tryz.prog.arrayLen 133=20:=by kernel_rfl
 have hu:Tryz.prog.underlying 133=some (.array (Tryz.prog.arrayLen 133) (Tryz.prog.elem 133)):=by kernel_rfl
 have hz:(sizeOf (Tryz.prog.elem 133)).run Tryz.prog w=.ok 1 w:=by kernel_rfl
 subst hi hn;rw [run_sliceAt_array_lhm w _ _ hu .i64 .i64 .i64 (p:Int) 20 20 (by omega) (by omega) (by omega) (by rw [hl];decide),hz];simp only [Result.andThen,slicedAt];rw [if_neg (by simp;omega)];simp [Addr.add];omega
theorem zW {w wr:World} {acc:List UInt8} (h:Ix w acc wr) (c:Nat) :
  (convert 49 9 (.slice (some ⟨w.heap.size,20 - acc.length,none⟩) acc.length c)).run Tryz.prog wr=.ok (.string ⟨acc.toArray⟩) wr:=
 run_convert_bytes_back wr 49 9 5 ⟨w.heap.size,20 - acc.length,none⟩ c acc (by kernel_rfl) (by kernel_rfl) (by kernel_rfl)
  (fun j hj=>by
   have e:(⟨w.heap.size,20 - acc.length,none⟩:Addr).add j=⟨w.heap.size,20 - acc.length+j,none⟩:=by unfold Addr.add;split<;>simp_all
   rw [e];exact h.told j hj)
theorem xC (n:Int) (h1:-9223372036854775808≤n) (h2:n≤9223372036854775807) (w:World) :
  Calls Tryz.prog 128 #[.int .i64 n] w fun e w'=>e=.returned (.string ⟨(digs n).toArray⟩)∧Below w.heap.size w w':=by
 have hm:n.natAbs≤9223372036854775808:=by omega
 go_enter Tryz.func128,Tryz.ntmps128;go_wp2_with (go_at_call 155;refine (Iw _ h1 h2 _).mono ?_;rintro e w' ⟨rfl,rfl⟩)
 generalize hgm:n.natAbs=m at *
 have Hm:Hid (n.natAbs=m):=hgm;clear hgm;go_loopw [4,5] (fun at' rest wr=>∃ (j r:Nat) (acc:List UInt8),at'=.int .i64 (20 - (j:Int))∧rest=.int .u64 (r:Int)∧r≤9223372036854775808∧Ez m j r acc∧Ix w acc wr) (fun at' _ _=>(intOf at').toNat)
 case atStart=>exact⟨0,m,[],by simp,rfl,hm,Ay (by omega),Iy w _ rfl⟩
 case round=>
  obtain⟨j,r,acc,rfl,rfl,hrm,ht,hroom⟩:=hrel;have hlen:=ht.1;have hj19:=ht.2.1;by_cases hgo:0<r∨j=0
  ·have hj:=Dv ht hgo;have hstep:=Cy ht hgo;have R:Hid (∀ wx,wr.setCell ⟨w.heap.size,20 - j - 1,none⟩ (.int .u8 (48+(r:Int) % 10))=wx→Ix w (UInt8.ofNat (48+r % 10)::acc) wx):=by
    rintro wx rfl;exact CX hroom (by omega) _ _ (by omega) _ (by rw [uF];push_cast;rfl)
   obtain⟨u,hu⟩:=hroom.cell (20 - j - 1) (by omega);have hf:=hroom.free (20 - j - 1) (by omega);have Ht:Hid (Ez m (j+1) (r / 10) (UInt8.ofNat (48+r % 10)::acc)):=hstep;clear hstep hroom ht hlen;rcases Nat.eq_zero_or_pos r with hr0 | hr0
   ·have hj0:j=0:=by omega
    subst hr0 hj0;go_wp2;go_roundw
    case rel=>exact⟨0+1,0 / 10,_,by simp,by simp,by omega,Ht.out,R.out _ rfl⟩
    case measure=>simp [intOf]
   ·go_wp2;go_roundw
    case rel=>exact⟨j+1,r / 10,_,by go_num,by go_num,by omega,Ht.out,R.out _ rfl⟩
    case measure=>simp [intOf];omega
  ·have hr:r=0:=by omega
   have hj:j≠0:=by omega
   have Hacc:Hid (acc=sQ 20 m):=EA ht hr hj;subst hr;by_cases hn:n<0
   ·have Hd:Hid (digs n=45::acc):=by
     show digs n=45::acc;unfold digs;rw [if_pos hn,Hacc.out,← Hm.out]
    have hroom':Ix w (45::acc) (wr.setCell ⟨w.heap.size,20 - j - 1,none⟩ (.int .u8 45)):=CX hroom (by omega) 45 _ (by omega) _ rfl;have hsl:=Bs w.heap.size (20 - j - 1) (20 - (j:Int) - 1) (by omega) (by omega) (acc.length+1) (by omega);have hcv:=zW hroom' (acc.length+1);rw [show 20 - (45::acc).length=20 - j - 1 from by simp;omega,List.length_cons] at hcv;obtain⟨u,hu⟩:=hroom.cell (20 - j - 1) (by omega);have hf:=hroom.free (20 - j - 1) (by omega);have Hgr:Hid (Below w.heap.size w (wr.setCell ⟨w.heap.size,20 - j - 1,none⟩ (.int .u8 45))):=hroom'.gr;have hjj:((20 - (j:Int))==20)=false:=by rw [beq_eq_false_iff_ne];omega
    clear ht hroom hroom' hlen hgo Hm Hacc;go_wp2;go_ret;exact⟨by rw [Hd.out];rfl,Hgr.out⟩
   ·have Hd:Hid (digs n=acc):=by
     show digs n=acc;unfold digs;rw [if_neg hn,Hacc.out,← Hm.out]
    have hsl:=Bs w.heap.size (20 - j) (20 - (j:Int)) (by omega) (by omega) acc.length (by omega);have hcv:=zW hroom acc.length;rw [show 20 - acc.length=20 - j from by omega] at hcv;have Hgr:Hid (Below w.heap.size w wr):=hroom.gr;have hjj:((20 - (j:Int))==20)=false:=by rw [beq_eq_false_iff_ne];omega
    clear ht hroom hlen hgo Hm Hacc;go_wp2;go_ret;exact⟨by rw [Hd.out];rfl,Hgr.out⟩
theorem xY (b:UInt8) (l:List UInt8):(⟨#[b]⟩:ByteArray)++(⟨l.toArray⟩:ByteArray)=⟨(b::l).toArray⟩:=by
 apply ByteArray.ext;simp
theorem QQ (a b:List UInt8):(⟨a.toArray⟩:ByteArray)++(⟨b.toArray⟩:ByteArray)=⟨(a++b).toArray⟩:=by
 apply ByteArray.ext;simp
theorem Jr (b:UInt8) (v:Int) (hv:v=(b.toNat:Int)) (wx:World) :
  (convert 49 9 (.slice (some ⟨wx.heap.size,0,none⟩) 1 1)).run Tryz.prog (wx.alloc (Obj.cells #[.int .u8 v] 5))=.ok (.string ⟨#[b]⟩) (wx.alloc (Obj.cells #[.int .u8 v] 5)):=
 run_convert_bytes_back (wx.alloc (Obj.cells #[.int .u8 v] 5)) 49 9 5 ⟨wx.heap.size,0,none⟩ 1 [b] (by kernel_rfl) (by kernel_rfl) (by kernel_rfl)
  (fun j hj=>by
   have:j=0:=by simpa using hj
   subst this;simp [Addr.add,hv])
theorem oY (m:Nat) (hm:m≤9223372036854775807) (w:World) :
  Calls Tryz.prog 80 #[.int .i64 m] w fun e w'=>e=.returned (.string ⟨(sQ 20 m).toArray⟩)∧Below w.heap.size w w':=by
 go_enter Tryz.func80,Tryz.ntmps80;go_wp2;go_loopw [0,3,4] (fun n s k wr=>∃ (j r:Nat) (acc:List UInt8),n=.int .i64 (r:Int)∧s=.string ⟨acc.toArray⟩∧k=.int .i64 (j:Int)∧r≤9223372036854775807∧(0<r∨j=0)∧Ez m j r acc∧w.heap.size≤wr.heap.size∧Below w.heap.size w wr) (fun _ _ k _=>20 - (intOf k).toNat)
 case atStart=>exact⟨0,m,[],rfl,rfl,rfl,hm,Or.inr rfl,Ay (by omega),Nat.le_refl _,Below.refl _ _⟩
 case round=>
  obtain⟨j,r,acc,rfl,rfl,rfl,hrm,hgo,ht,hsz,hg⟩:=hrel;have hj:=Dv ht hgo;have hl:acc.length≤19:=by have:=ht.1;omega
  have hstep:=Cy ht hgo;have hbn:=uF r;generalize UInt8.ofNat (48+r % 10)=b at *
  have hcv:=Jr b (48+(r:Int) % 10) (by rw [hbn];push_cast;rfl) wr;have Hstep:=aA hstep;have Hg:=aA hg;clear ht hg hbn hstep;by_cases hz:r / 10=0
  ·have hz2:((r:Int) / 10==0)=true:=beq_iff_eq.2 (by omega);have Hz:=aA hz;clear hz;go_wp2;go_ret;refine⟨?_,Hg.out.alloc hsz _⟩;rw [← EA Hstep.out Hz.out (by omega),← xY];rfl
  ·have hz2:((r:Int) / 10==0)=false:=beq_eq_false_iff_ne.2 (by omega);go_wp2;go_roundw
   case rel=>exact⟨j+1,r / 10,b::acc,by go_num,by rw [xY],by go_num,by omega,Or.inl (by omega),Hstep.out,by simp;omega,Hg.out.alloc hsz _⟩
   case measure=>simp [intOf];omega
theorem sO (n:Int) (h1:-9223372036854775808≤n) (h2:n≤9223372036854775807) (w:World) :
  Calls Tryz.prog 54 #[.int .i64 n] w fun e w'=>e=.returned (.string ⟨(digs n).toArray⟩)∧Below w.heap.size w w':=by
 by_cases h:0≤n
 ·have Hd:Hid (digs n=sQ 20 n.natAbs):=aA (by unfold digs;rw [if_neg (by omega)]);obtain⟨m,rfl⟩:=Int.eq_ofNat_of_zero_le h;go_enter Tryz.func54,Tryz.ntmps54;go_wp2_with fail;refine (oY m (by omega) _).mono ?_;rintro e w1 ⟨rfl,g1⟩;go_wp2;go_ret;exact⟨by rw [Hd.out];rfl,g1⟩
 ·obtain⟨m,hm⟩:∃ m:Nat,n=-(m:Int):=⟨n.natAbs,by omega⟩
  have hq:n.tdiv 10=-((m / 10:Nat):Int):=by rw [hm,Int.neg_tdiv];rfl
  have hr:n.tmod 10=-((m % 10:Nat):Int):=by rw [hm,Int.neg_tmod];rfl
  have Hq:Hid (wrap64 (-n.tdiv 10)=((m / 10:Nat):Int)):=aA (by rw [hq,Int.neg_neg];exact IntWalk.wrap64_in _ ⟨by omega,by omega⟩);have Hr:Hid (wrap64 (-n.tmod 10)=((m % 10:Nat):Int)):=aA (by rw [hr,Int.neg_neg];exact IntWalk.wrap64_in _ ⟨by omega,by omega⟩);have Hd:=aA (Az hm (by omega));by_cases h10:m<10
  ·have hz:(n.tdiv 10==0)=true:=beq_iff_eq.2 (by rw [hq];omega);have hl:=pG 20 (m % 10);have Hm:Hid (m % 10=m):=aA (by omega);clear hq hr hm;go_enter Tryz.func54,Tryz.ntmps54;go_wp2_with fail;rw [Hr.out];refine (oY (m % 10) (by omega) _).mono ?_;rintro e w1 ⟨rfl,g1⟩;generalize hA:sQ 20 (m % 10)=A at *
   have HA:=aA hA;clear hA;go_wp2;go_ret;refine⟨?_,g1⟩;rw [Hd.out,← Hm.out,HA.out,← xY];rfl
  ·have hz:(n.tdiv 10==0)=false:=beq_eq_false_iff_ne.2 (by rw [hq];omega);have hl:=pG 20 (m % 10);have hl2:=pG 20 (m / 10);have hb:m≤9223372036854775808:=by omega
   have Hs:=aA (KT (m:=m) (by omega) (by omega));clear hq hr hm;go_enter Tryz.func54,Tryz.ntmps54;go_wp2_with fail;rw [Hq.out];refine (oY (m / 10) (by omega) _).mono ?_;rintro e w1 ⟨rfl,g1⟩;generalize hA:sQ 20 (m / 10)=A at *
   have HA:=aA hA;clear hA;go_wp2_with fail;rw [Hr.out];refine (oY (m % 10) (by omega) _).mono ?_;rintro e w2 ⟨rfl,g2⟩;generalize hB:sQ 20 (m % 10)=B at *
   have HB:=aA hB;clear hB;go_wp2;go_ret;refine⟨?_,bK g1 g2⟩;rw [Hd.out,Hs.out,← List.cons_append,← QQ,← xY];rfl
end Go.Proofs.YtdnnmjhfidimcaaGreatDoor
